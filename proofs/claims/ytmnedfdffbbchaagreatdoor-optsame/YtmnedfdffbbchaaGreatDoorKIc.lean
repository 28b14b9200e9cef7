import Derived.Test.YtmnedfdffbbchaaGreatDoorKIb
set_option maxRecDepth 100000
set_option maxHeartbeats 4000000

namespace Go.Proofs.YtmnedfdffbbchaaGreatDoor.Jo
open Go.RowKit Go.Maps
open Ob (O In I64)
open Vm (St Fr Pl)
theorem step_1 {c:Vx}{W:World}{s:St}{vv:List (List Int)}{fv sv ov:Value}(h:MM c W s vv fv sv ov) (ok:VxOk c) (hg:G8 c W fv sv ov s.way) {f:Fr}{fs:List Fr}(hf:s.frames=f :: fs) (hbs:f.base<=s.stack.length) (hat:f.at'<c.O.code.length) (hop:c.O.code[f.at'].op=1) :
  Calls Tryz.prog 76 #[.pointer (some ⟨c.gb,0,none⟩)] W (StepP c (Vm.exec c.most { f with at':=f.at'+1 } fs ⟨c.O,vv⟩ c.O.code[f.at'] (Vm.going { f with at':=f.at'+1 } fs s))):=by
 obtain⟨fb,cap,hfv,hfb,hcap,hfc⟩:=h.top hf
 have hgl:=zk hg
 have hcl:=zP ok
 have HLA:=zh (last8 h hg hf hfv)
 have hI:=ok.i64 _ (List.getElem_mem hat)
 have hIB:=inst8 ok hat
 have HCD:Hid (∀ w1,Below c.w0.heap.size c.w0 w1->∃ b o cc,w1.cell? ⟨c.ob,c.oo+6,none⟩=some (.slice (some ⟨b,o,none⟩) c.O.code.length cc)/\b<w1.heap.size/\c.ob<w1.heap.size/\w1.cell? ⟨b,o+f.at' * 3,none⟩=some (.int .i64 c.O.code[f.at'].op)/\w1.cell? ⟨b,o+f.at' * 3+1,none⟩=some (.int .i64 c.O.code[f.at'].a)/\w1.cell? ⟨b,o+f.at' * 3+2,none⟩=some (.int .i64 c.O.code[f.at'].b)):=fun w1 hb=>code8 ok hb hat
 generalize c.O.code[f.at']=x at *
 obtain⟨xop,xa,xb⟩:=x
 simp only at hop hI HCD
 subst hop
 unfold Ob.instB at hIB
 have hex:∀ t,Vm.exec c.most { f with at':=f.at'+1 } fs ⟨c.O,vv⟩ ⟨1,xa,xb⟩ t=Vm.put xa t:=fun t=>by simp[Vm.exec]
 rw[hex]
 have HM:Hid (∀ w1,Below W.heap.size W w1->MM c w1 s vv fv sv ov/\G8 c w1 fv sv ov s.way):=fun w1 hb=>⟨h.below ok hg hb,(hb.block _ hgl).trans hg⟩
 have HX:Hid (∀ w1,Below W.heap.size W w1->w1.cell? ⟨fb,fs.length * 14,none⟩=some (.pointer (some ⟨c.pb,0,none⟩))/\w1.cell? ⟨fb,fs.length * 14+1,none⟩=some (.int .i64 (f.at':Int))/\w1.cell? ⟨c.pb,0,none⟩=some (.pointer (some ⟨c.ob,c.oo,none⟩))/\fb<w1.heap.size/\c.pb<w1.heap.size/\w1.frozen? ⟨fb,fs.length * 14+1,none⟩=false):=fun w1 hb=>by
  obtain⟨m1,_⟩:=(⟨h.below ok hg hb,trivial⟩:MM c w1 s vv fv sv ov/\True)
  refine⟨(hb.cell (p:=⟨fb,fs.length * 14,none⟩) hfb).trans (hfc 0 _ rfl),(hb.cell (p:=⟨fb,fs.length * 14+1,none⟩) hfb).trans (hfc 1 _ rfl),(zc m1.pk).trans rfl,Nat.lt_of_lt_of_le hfb hb.size,zk m1.pk,?_⟩
  rcases m1.fr.2 with⟨e,_⟩|⟨g',cp',cur',e,_,hh,_⟩
  ·rw[e]at hfv;cases hfv
  ·rw[e]at hfv
   simp only [Value.slice.injEq,Option.some.injEq,Addr.mk.injEq]at hfv
   rw[<-hfv.1.1]
   exact zr hh
 have HFO:=zh (h.ff f (by rw[hf];simp))
 have HF:=zh (And.intro hf (And.intro hfv hbs))
 have HOK:=zh ok
 have HAT:=zh hat
 have hai:(f.at':Int)<4000:=by omega
 have hain:(f.at':Int)<(c.O.code.length:Int):=by omega
 obtain⟨u,hu⟩:∃ u,u=Vm.going { f with at':=f.at'+1 } fs s:=⟨_,rfl⟩
 have HFU:Hid (u.frames={ f with at':=f.at'+1 } :: fs):=by rw[hu];rfl
 have HBU:Hid (f.base<=u.stack.length):=by rw[hu];exact HF.out.2.2
 have HWU:Hid (u.way=s.way):=by rw[hu];rfl
 have HUU:=zh hu
 rw[<-hu]
 clear hu
 have HIB:=zh hIB
 clear hbs hfc hfv h hg hf hIB
 go_enter Tryz.func76,Tryz.ntmps76
 go_wp2_with fail
 refine HLA.out.mono ?_
 rintro e w1 ⟨rfl,hb1⟩
 obtain⟨x0,x1,x2,hfb1,hpb1,z1⟩:=HX.out w1 hb1
 obtain⟨hm1,hg1⟩:=HM.out w1 hb1
 obtain⟨eb,eo,cc,k6,heb,hob,e0,e1,e2⟩:=HCD.out w1 hm1.be
 obtain⟨w2,hw2⟩:∃ w2,w2=(w1.alloc (.cells #[.int .i64 1,.int .i64 xa,.int .i64 xb] 68)).drew:=⟨_,rfl⟩
 have HB2:Hid (Below w1.heap.size w1 w2):=by rw[hw2];exact(zb _ _).drew
 have hk2:w2.heap[w1.heap.size]?=some (.cells #[.int .i64 1,.int .i64 xa,.int .i64 xb] 68 (0,0)):=by rw[hw2];exact zw w1 _
 have HK2:=zh hk2
 have HB12:Hid (Below W.heap.size W w2):=hb1.trans (HB2.out.mono hb1.size)
 obtain⟨y0,y1,_,hfb2,hpb2,z2⟩:=HX.out w2 HB12.out
 obtain⟨hm2,hg2⟩:=HM.out w2 HB12.out
 obtain⟨w3,hw3⟩:∃ w3,w3=w2.setCell ⟨fb,fs.length * 14+1,none⟩ (.int .i64 ((f.at':Int)+1)):=⟨_,rfl⟩
 have hfo':FrOk c { f with at':=f.at'+1 }:=⟨HFO.out.of,HFO.out.ll,HFO.out.li,HFO.out.mn,by show f.at'+1<=4000;omega,HFO.out.bs⟩
 obtain⟨f1,f2⟩:=hm2.frset hg2 HF.out.1 HF.out.2.1 1 (.int .i64 ((f.at':Int)+1)) hfo' (yu c f (f.at'+1))
 rw[<-hw3]at f1 f2
 have hxw:w1.heap.size≠fb:=by omega
 have hxg:w1.heap.size≠c.gb:=by have:=zk hg1;omega
 have hk3:w3.heap[w1.heap.size]?=some (.cells #[.int .i64 1,.int .i64 xa,.int .i64 xb] 68 (0,0)):=by rw[hw3];exact(Below.heap_setCell _ _ _ _ (by simpa using hxw)).trans hk2
 have q0:w3.cell? ⟨w1.heap.size,0,none⟩=some (.int .i64 1):=(zc hk3).trans rfl
 have q1:w3.cell? ⟨w1.heap.size,1,none⟩=some (.int .i64 xa):=(zc hk3).trans rfl
 have q2:w3.cell? ⟨w1.heap.size,2,none⟩=some (.int .i64 xb):=(zc hk3).trans rfl
 have hxl3:w1.heap.size<w3.heap.size:=zk hk3
 have hgl3:c.gb<w3.heap.size:=zk f2
 rw[<-HUU.out]at f1
 have HM3:=zh f1
 have HG3:Hid (G8 c w3 fv sv ov u.way):=by rw[HWU.out];exact f2
 have HK3:=zh hk3
 have HC:=zh (put8 HM3.out HOK.out HG3.out xa hI)
 clear hm1 hg1 hm2 hg2 f1 f2 hk3 hk2 hb1 HX HM HLA hfo' hex HCD
 generalize f.at'=at' at *
 have HS1:Hid (∀ w9,Below w1.heap.size w1 w9->w9.cell? ⟨fb,fs.length * 14,none⟩=some (.pointer (some ⟨c.pb,0,none⟩))/\w9.cell? ⟨fb,fs.length * 14+1,none⟩=some (.int .i64 (at':Int))/\w9.cell? ⟨c.pb,0,none⟩=some (.pointer (some ⟨c.ob,c.oo,none⟩))/\w9.cell? ⟨c.ob,c.oo+6,none⟩=some (.slice (some ⟨eb,eo,none⟩) c.O.code.length cc)/\w9.cell? ⟨eb,eo+at' * 3,none⟩=some (.int .i64 1)/\w9.cell? ⟨eb,eo+at' * 3+1,none⟩=some (.int .i64 xa)/\w9.cell? ⟨eb,eo+at' * 3+2,none⟩=some (.int .i64 xb)):=fun w9 hb=>⟨(hb.cell (p:=⟨fb,fs.length * 14,none⟩) hfb1).trans x0,(hb.cell (p:=⟨fb,fs.length * 14+1,none⟩) hfb1).trans x1,(hb.cell (p:=⟨c.pb,0,none⟩) hpb1).trans x2,(hb.cell (p:=⟨c.ob,c.oo+6,none⟩) hob).trans k6,(hb.cell (p:=⟨eb,eo+at' * 3,none⟩) heb).trans e0,(hb.cell (p:=⟨eb,eo+at' * 3+1,none⟩) heb).trans e1,(hb.cell (p:=⟨eb,eo+at' * 3+2,none⟩) heb).trans e2⟩
 have HS0:=zh (HS1.out _ (zt w1))
 have HSA:Hid (∀ o,(w1.alloc o).drew.cell? ⟨fb,fs.length * 14,none⟩=some (.pointer (some ⟨c.pb,0,none⟩))/\(w1.alloc o).drew.cell? ⟨fb,fs.length * 14+1,none⟩=some (.int .i64 (at':Int))/\(w1.alloc o).drew.cell? ⟨c.pb,0,none⟩=some (.pointer (some ⟨c.ob,c.oo,none⟩))/\(w1.alloc o).drew.cell? ⟨c.ob,c.oo+6,none⟩=some (.slice (some ⟨eb,eo,none⟩) c.O.code.length cc)/\(w1.alloc o).drew.cell? ⟨eb,eo+at' * 3,none⟩=some (.int .i64 1)/\(w1.alloc o).drew.cell? ⟨eb,eo+at' * 3+1,none⟩=some (.int .i64 xa)/\(w1.alloc o).drew.cell? ⟨eb,eo+at' * 3+2,none⟩=some (.int .i64 xb)):=fun o=>HS1.out _ (zb _ _).drew
 go_upto_region 1 with fail
 go_region_held3 (fun w9=>w9.cell? ⟨fb,fs.length * 14,none⟩=some (.pointer (some ⟨c.pb,0,none⟩))/\w9.cell? ⟨fb,fs.length * 14+1,none⟩=some (.int .i64 (at':Int))/\w9.cell? ⟨c.pb,0,none⟩=some (.pointer (some ⟨c.ob,c.oo,none⟩))/\w9.cell? ⟨c.ob,c.oo+6,none⟩=some (.slice (some ⟨eb,eo,none⟩) c.O.code.length cc)/\w9.cell? ⟨eb,eo+at' * 3,none⟩=some (.int .i64 1)/\w9.cell? ⟨eb,eo+at' * 3+1,none⟩=some (.int .i64 xa)/\w9.cell? ⟨eb,eo+at' * 3+2,none⟩=some (.int .i64 xb)) (with_reducible (first|exact HS0.out|exact HSA.out _)) (fail)
 rw[<-hw2]
 clear hw2 x0 x1 e0 e1 e2 k6
 go_upto_region 3 with fail
 rw[<-hw3]
 clear hw3 y0 y1
 go_wp2_with fail
 refine HC.out.mono ?_
 intro e w4 hq
 obtain⟨rfl,hw4⟩:=hq
 have HFIN:Hid (StepP c (Vm.put xa u) (.returned (.tuple #[])) w4):=⟨rfl,hw4⟩
 clear hw4
 go_wp2_with fail
 first|exact ze rfl rfl HFIN.out|exact bodyPost_ret (v:=.tuple #[]) (by simp[results,Tryz.results76,go_sem]) rfl HFIN.out
theorem step_2 {c:Vx}{W:World}{s:St}{vv:List (List Int)}{fv sv ov:Value}(h:MM c W s vv fv sv ov) (ok:VxOk c) (hg:G8 c W fv sv ov s.way) {f:Fr}{fs:List Fr}(hf:s.frames=f :: fs) (hbs:f.base<=s.stack.length) (hat:f.at'<c.O.code.length) (hop:c.O.code[f.at'].op=2) :
  Calls Tryz.prog 76 #[.pointer (some ⟨c.gb,0,none⟩)] W (StepP c (Vm.exec c.most { f with at':=f.at'+1 } fs ⟨c.O,vv⟩ c.O.code[f.at'] (Vm.going { f with at':=f.at'+1 } fs s))):=by
 obtain⟨fb,cap,hfv,hfb,hcap,hfc⟩:=h.top hf
 have hgl:=zk hg
 have hcl:=zP ok
 have HLA:=zh (last8 h hg hf hfv)
 have hI:=ok.i64 _ (List.getElem_mem hat)
 have hIB:=inst8 ok hat
 have HCD:Hid (∀ w1,Below c.w0.heap.size c.w0 w1->∃ b o cc,w1.cell? ⟨c.ob,c.oo+6,none⟩=some (.slice (some ⟨b,o,none⟩) c.O.code.length cc)/\b<w1.heap.size/\c.ob<w1.heap.size/\w1.cell? ⟨b,o+f.at' * 3,none⟩=some (.int .i64 c.O.code[f.at'].op)/\w1.cell? ⟨b,o+f.at' * 3+1,none⟩=some (.int .i64 c.O.code[f.at'].a)/\w1.cell? ⟨b,o+f.at' * 3+2,none⟩=some (.int .i64 c.O.code[f.at'].b)):=fun w1 hb=>code8 ok hb hat
 generalize c.O.code[f.at']=x at *
 obtain⟨xop,xa,xb⟩:=x
 simp only at hop hI HCD
 subst hop
 unfold Ob.instB at hIB
 have hex:∀ t,Vm.exec c.most { f with at':=f.at'+1 } fs ⟨c.O,vv⟩ ⟨2,xa,xb⟩ t=Vm.taken f.base t fun _ s=>s:=fun t=>by simp[Vm.exec]
 rw[hex]
 have HM:Hid (∀ w1,Below W.heap.size W w1->MM c w1 s vv fv sv ov/\G8 c w1 fv sv ov s.way):=fun w1 hb=>⟨h.below ok hg hb,(hb.block _ hgl).trans hg⟩
 have HX:Hid (∀ w1,Below W.heap.size W w1->w1.cell? ⟨fb,fs.length * 14,none⟩=some (.pointer (some ⟨c.pb,0,none⟩))/\w1.cell? ⟨fb,fs.length * 14+1,none⟩=some (.int .i64 (f.at':Int))/\w1.cell? ⟨c.pb,0,none⟩=some (.pointer (some ⟨c.ob,c.oo,none⟩))/\fb<w1.heap.size/\c.pb<w1.heap.size/\w1.frozen? ⟨fb,fs.length * 14+1,none⟩=false):=fun w1 hb=>by
  obtain⟨m1,_⟩:=(⟨h.below ok hg hb,trivial⟩:MM c w1 s vv fv sv ov/\True)
  refine⟨(hb.cell (p:=⟨fb,fs.length * 14,none⟩) hfb).trans (hfc 0 _ rfl),(hb.cell (p:=⟨fb,fs.length * 14+1,none⟩) hfb).trans (hfc 1 _ rfl),(zc m1.pk).trans rfl,Nat.lt_of_lt_of_le hfb hb.size,zk m1.pk,?_⟩
  rcases m1.fr.2 with⟨e,_⟩|⟨g',cp',cur',e,_,hh,_⟩
  ·rw[e]at hfv;cases hfv
  ·rw[e]at hfv
   simp only [Value.slice.injEq,Option.some.injEq,Addr.mk.injEq]at hfv
   rw[<-hfv.1.1]
   exact zr hh
 have HFO:=zh (h.ff f (by rw[hf];simp))
 have HF:=zh (And.intro hf (And.intro hfv hbs))
 have HOK:=zh ok
 have HAT:=zh hat
 have hai:(f.at':Int)<4000:=by omega
 have hain:(f.at':Int)<(c.O.code.length:Int):=by omega
 obtain⟨u,hu⟩:∃ u,u=Vm.going { f with at':=f.at'+1 } fs s:=⟨_,rfl⟩
 have HFU:Hid (u.frames={ f with at':=f.at'+1 } :: fs):=by rw[hu];rfl
 have HBU:Hid (f.base<=u.stack.length):=by rw[hu];exact HF.out.2.2
 have HWU:Hid (u.way=s.way):=by rw[hu];rfl
 have HUU:=zh hu
 rw[<-hu]
 clear hu
 have HIB:=zh hIB
 clear hbs hfc hfv h hg hf hIB
 go_enter Tryz.func76,Tryz.ntmps76
 go_wp2_with fail
 refine HLA.out.mono ?_
 rintro e w1 ⟨rfl,hb1⟩
 obtain⟨x0,x1,x2,hfb1,hpb1,z1⟩:=HX.out w1 hb1
 obtain⟨hm1,hg1⟩:=HM.out w1 hb1
 obtain⟨eb,eo,cc,k6,heb,hob,e0,e1,e2⟩:=HCD.out w1 hm1.be
 obtain⟨w2,hw2⟩:∃ w2,w2=(w1.alloc (.cells #[.int .i64 2,.int .i64 xa,.int .i64 xb] 68)).drew:=⟨_,rfl⟩
 have HB2:Hid (Below w1.heap.size w1 w2):=by rw[hw2];exact(zb _ _).drew
 have hk2:w2.heap[w1.heap.size]?=some (.cells #[.int .i64 2,.int .i64 xa,.int .i64 xb] 68 (0,0)):=by rw[hw2];exact zw w1 _
 have HK2:=zh hk2
 have HB12:Hid (Below W.heap.size W w2):=hb1.trans (HB2.out.mono hb1.size)
 obtain⟨y0,y1,_,hfb2,hpb2,z2⟩:=HX.out w2 HB12.out
 obtain⟨hm2,hg2⟩:=HM.out w2 HB12.out
 obtain⟨w3,hw3⟩:∃ w3,w3=w2.setCell ⟨fb,fs.length * 14+1,none⟩ (.int .i64 ((f.at':Int)+1)):=⟨_,rfl⟩
 have hfo':FrOk c { f with at':=f.at'+1 }:=⟨HFO.out.of,HFO.out.ll,HFO.out.li,HFO.out.mn,by show f.at'+1<=4000;omega,HFO.out.bs⟩
 obtain⟨f1,f2⟩:=hm2.frset hg2 HF.out.1 HF.out.2.1 1 (.int .i64 ((f.at':Int)+1)) hfo' (yu c f (f.at'+1))
 rw[<-hw3]at f1 f2
 have hxw:w1.heap.size≠fb:=by omega
 have hxg:w1.heap.size≠c.gb:=by have:=zk hg1;omega
 have hk3:w3.heap[w1.heap.size]?=some (.cells #[.int .i64 2,.int .i64 xa,.int .i64 xb] 68 (0,0)):=by rw[hw3];exact(Below.heap_setCell _ _ _ _ (by simpa using hxw)).trans hk2
 have q0:w3.cell? ⟨w1.heap.size,0,none⟩=some (.int .i64 2):=(zc hk3).trans rfl
 have q1:w3.cell? ⟨w1.heap.size,1,none⟩=some (.int .i64 xa):=(zc hk3).trans rfl
 have q2:w3.cell? ⟨w1.heap.size,2,none⟩=some (.int .i64 xb):=(zc hk3).trans rfl
 have hxl3:w1.heap.size<w3.heap.size:=zk hk3
 have hgl3:c.gb<w3.heap.size:=zk f2
 rw[<-HUU.out]at f1
 have HM3:=zh f1
 have HG3:Hid (G8 c w3 fv sv ov u.way):=by rw[HWU.out];exact f2
 have HK3:=zh hk3
 have HC:=zh (take8 HM3.out HOK.out HG3.out HFU.out)
 clear hm1 hg1 hm2 hg2 f1 f2 hk3 hk2 hb1 HX HM HLA hfo' hex HCD
 generalize f.at'=at' at *
 have HS1:Hid (∀ w9,Below w1.heap.size w1 w9->w9.cell? ⟨fb,fs.length * 14,none⟩=some (.pointer (some ⟨c.pb,0,none⟩))/\w9.cell? ⟨fb,fs.length * 14+1,none⟩=some (.int .i64 (at':Int))/\w9.cell? ⟨c.pb,0,none⟩=some (.pointer (some ⟨c.ob,c.oo,none⟩))/\w9.cell? ⟨c.ob,c.oo+6,none⟩=some (.slice (some ⟨eb,eo,none⟩) c.O.code.length cc)/\w9.cell? ⟨eb,eo+at' * 3,none⟩=some (.int .i64 2)/\w9.cell? ⟨eb,eo+at' * 3+1,none⟩=some (.int .i64 xa)/\w9.cell? ⟨eb,eo+at' * 3+2,none⟩=some (.int .i64 xb)):=fun w9 hb=>⟨(hb.cell (p:=⟨fb,fs.length * 14,none⟩) hfb1).trans x0,(hb.cell (p:=⟨fb,fs.length * 14+1,none⟩) hfb1).trans x1,(hb.cell (p:=⟨c.pb,0,none⟩) hpb1).trans x2,(hb.cell (p:=⟨c.ob,c.oo+6,none⟩) hob).trans k6,(hb.cell (p:=⟨eb,eo+at' * 3,none⟩) heb).trans e0,(hb.cell (p:=⟨eb,eo+at' * 3+1,none⟩) heb).trans e1,(hb.cell (p:=⟨eb,eo+at' * 3+2,none⟩) heb).trans e2⟩
 have HS0:=zh (HS1.out _ (zt w1))
 have HSA:Hid (∀ o,(w1.alloc o).drew.cell? ⟨fb,fs.length * 14,none⟩=some (.pointer (some ⟨c.pb,0,none⟩))/\(w1.alloc o).drew.cell? ⟨fb,fs.length * 14+1,none⟩=some (.int .i64 (at':Int))/\(w1.alloc o).drew.cell? ⟨c.pb,0,none⟩=some (.pointer (some ⟨c.ob,c.oo,none⟩))/\(w1.alloc o).drew.cell? ⟨c.ob,c.oo+6,none⟩=some (.slice (some ⟨eb,eo,none⟩) c.O.code.length cc)/\(w1.alloc o).drew.cell? ⟨eb,eo+at' * 3,none⟩=some (.int .i64 2)/\(w1.alloc o).drew.cell? ⟨eb,eo+at' * 3+1,none⟩=some (.int .i64 xa)/\(w1.alloc o).drew.cell? ⟨eb,eo+at' * 3+2,none⟩=some (.int .i64 xb)):=fun o=>HS1.out _ (zb _ _).drew
 go_upto_region 1 with fail
 go_region_held3 (fun w9=>w9.cell? ⟨fb,fs.length * 14,none⟩=some (.pointer (some ⟨c.pb,0,none⟩))/\w9.cell? ⟨fb,fs.length * 14+1,none⟩=some (.int .i64 (at':Int))/\w9.cell? ⟨c.pb,0,none⟩=some (.pointer (some ⟨c.ob,c.oo,none⟩))/\w9.cell? ⟨c.ob,c.oo+6,none⟩=some (.slice (some ⟨eb,eo,none⟩) c.O.code.length cc)/\w9.cell? ⟨eb,eo+at' * 3,none⟩=some (.int .i64 2)/\w9.cell? ⟨eb,eo+at' * 3+1,none⟩=some (.int .i64 xa)/\w9.cell? ⟨eb,eo+at' * 3+2,none⟩=some (.int .i64 xb)) (with_reducible (first|exact HS0.out|exact HSA.out _)) (fail)
 rw[<-hw2]
 clear hw2 x0 x1 e0 e1 e2 k6
 go_upto_region 3 with fail
 rw[<-hw3]
 clear hw3 y0 y1
 go_wp2_with fail
 refine HC.out.mono ?_
 intro e w4 hq
 obtain⟨_,hq⟩:=hq
 by_cases h1:u.stack.length<=f.base
 ·rw[if_pos h1]at hq
  obtain⟨rfl,hm4,hg4⟩:=hq
  have HFIN:Hid (StepP c (Vm.taken f.base u fun _ s=>s) (.returned (.tuple #[])) w4):=⟨rfl,by rw[yf h1];exact hm4.mv8 hg4⟩
  clear hm4 hg4 h1
  go_wp2_with fail
  first|exact ze rfl rfl HFIN.out|exact bodyPost_ret (v:=.tuple #[]) (by simp[results,Tryz.results76,go_sem]) rfl HFIN.out
 ·rw[if_neg h1]at hq
  obtain⟨n,r,sv',hs,rfl,hm4,hg4⟩:=hq
  have HFIN:Hid (StepP c (Vm.taken f.base u fun _ s=>s) (.returned (.tuple #[])) w4):=⟨rfl,by rw[zM hs h1];exact⟨_,_,_,_,hm4,hg4⟩⟩
  clear hm4 hg4 h1 hs
  go_wp2_with fail
  first|exact ze rfl rfl HFIN.out|exact bodyPost_ret (v:=.tuple #[]) (by simp[results,Tryz.results76,go_sem]) rfl HFIN.out
theorem step_3 {c:Vx}{W:World}{s:St}{vv:List (List Int)}{fv sv ov:Value}(h:MM c W s vv fv sv ov) (ok:VxOk c) (hg:G8 c W fv sv ov s.way) {f:Fr}{fs:List Fr}(hf:s.frames=f :: fs) (hbs:f.base<=s.stack.length) (hat:f.at'<c.O.code.length) (hop:c.O.code[f.at'].op=3) :
  Calls Tryz.prog 76 #[.pointer (some ⟨c.gb,0,none⟩)] W (StepP c (Vm.exec c.most { f with at':=f.at'+1 } fs ⟨c.O,vv⟩ c.O.code[f.at'] (Vm.going { f with at':=f.at'+1 } fs s))):=by
 obtain⟨fb,cap,hfv,hfb,hcap,hfc⟩:=h.top hf
 have hgl:=zk hg
 have hcl:=zP ok
 have HLA:=zh (last8 h hg hf hfv)
 have hI:=ok.i64 _ (List.getElem_mem hat)
 have hIB:=inst8 ok hat
 have HCD:Hid (∀ w1,Below c.w0.heap.size c.w0 w1->∃ b o cc,w1.cell? ⟨c.ob,c.oo+6,none⟩=some (.slice (some ⟨b,o,none⟩) c.O.code.length cc)/\b<w1.heap.size/\c.ob<w1.heap.size/\w1.cell? ⟨b,o+f.at' * 3,none⟩=some (.int .i64 c.O.code[f.at'].op)/\w1.cell? ⟨b,o+f.at' * 3+1,none⟩=some (.int .i64 c.O.code[f.at'].a)/\w1.cell? ⟨b,o+f.at' * 3+2,none⟩=some (.int .i64 c.O.code[f.at'].b)):=fun w1 hb=>code8 ok hb hat
 generalize c.O.code[f.at']=x at *
 obtain⟨xop,xa,xb⟩:=x
 simp only at hop hI HCD
 subst hop
 unfold Ob.instB at hIB
 have hIB:0<=xa/\xa<10:=by simp[Ob.countsB,Ob.choices]at hIB;exact hIB.2
 obtain⟨xk,rfl⟩:∃ xk:Nat,xa=(xk:Int):=⟨xa.toNat,by omega⟩
 have hex:∀ t,Vm.exec c.most { f with at':=f.at'+1 } fs ⟨c.O,vv⟩ ⟨3,(xk:Int),xb⟩ t=localF 3 xk ({ f with at':=f.at'+1 }:Fr) fs t:=fun t=>by simp[Vm.exec,localF]
 rw[hex]
 have HM:Hid (∀ w1,Below W.heap.size W w1->MM c w1 s vv fv sv ov/\G8 c w1 fv sv ov s.way):=fun w1 hb=>⟨h.below ok hg hb,(hb.block _ hgl).trans hg⟩
 have HX:Hid (∀ w1,Below W.heap.size W w1->w1.cell? ⟨fb,fs.length * 14,none⟩=some (.pointer (some ⟨c.pb,0,none⟩))/\w1.cell? ⟨fb,fs.length * 14+1,none⟩=some (.int .i64 (f.at':Int))/\w1.cell? ⟨c.pb,0,none⟩=some (.pointer (some ⟨c.ob,c.oo,none⟩))/\fb<w1.heap.size/\c.pb<w1.heap.size/\w1.frozen? ⟨fb,fs.length * 14+1,none⟩=false):=fun w1 hb=>by
  obtain⟨m1,_⟩:=(⟨h.below ok hg hb,trivial⟩:MM c w1 s vv fv sv ov/\True)
  refine⟨(hb.cell (p:=⟨fb,fs.length * 14,none⟩) hfb).trans (hfc 0 _ rfl),(hb.cell (p:=⟨fb,fs.length * 14+1,none⟩) hfb).trans (hfc 1 _ rfl),(zc m1.pk).trans rfl,Nat.lt_of_lt_of_le hfb hb.size,zk m1.pk,?_⟩
  rcases m1.fr.2 with⟨e,_⟩|⟨g',cp',cur',e,_,hh,_⟩
  ·rw[e]at hfv;cases hfv
  ·rw[e]at hfv
   simp only [Value.slice.injEq,Option.some.injEq,Addr.mk.injEq]at hfv
   rw[<-hfv.1.1]
   exact zr hh
 have HFO:=zh (h.ff f (by rw[hf];simp))
 have HF:=zh (And.intro hf (And.intro hfv hbs))
 have HOK:=zh ok
 have HAT:=zh hat
 have hai:(f.at':Int)<4000:=by omega
 have hain:(f.at':Int)<(c.O.code.length:Int):=by omega
 obtain⟨u,hu⟩:∃ u,u=Vm.going { f with at':=f.at'+1 } fs s:=⟨_,rfl⟩
 have HFU:Hid (u.frames={ f with at':=f.at'+1 } :: fs):=by rw[hu];rfl
 have HBU:Hid (f.base<=u.stack.length):=by rw[hu];exact HF.out.2.2
 have HWU:Hid (u.way=s.way):=by rw[hu];rfl
 have HUU:=zh hu
 rw[<-hu]
 clear hu
 have HIB:=zh hIB
 clear hbs hfc hfv h hg hf hIB
 go_enter Tryz.func76,Tryz.ntmps76
 go_wp2_with fail
 refine HLA.out.mono ?_
 rintro e w1 ⟨rfl,hb1⟩
 obtain⟨x0,x1,x2,hfb1,hpb1,z1⟩:=HX.out w1 hb1
 obtain⟨hm1,hg1⟩:=HM.out w1 hb1
 obtain⟨eb,eo,cc,k6,heb,hob,e0,e1,e2⟩:=HCD.out w1 hm1.be
 obtain⟨w2,hw2⟩:∃ w2,w2=(w1.alloc (.cells #[.int .i64 3,.int .i64 (xk:Int),.int .i64 xb] 68)).drew:=⟨_,rfl⟩
 have HB2:Hid (Below w1.heap.size w1 w2):=by rw[hw2];exact(zb _ _).drew
 have hk2:w2.heap[w1.heap.size]?=some (.cells #[.int .i64 3,.int .i64 (xk:Int),.int .i64 xb] 68 (0,0)):=by rw[hw2];exact zw w1 _
 have HK2:=zh hk2
 have HB12:Hid (Below W.heap.size W w2):=hb1.trans (HB2.out.mono hb1.size)
 obtain⟨y0,y1,_,hfb2,hpb2,z2⟩:=HX.out w2 HB12.out
 obtain⟨hm2,hg2⟩:=HM.out w2 HB12.out
 obtain⟨w3,hw3⟩:∃ w3,w3=w2.setCell ⟨fb,fs.length * 14+1,none⟩ (.int .i64 ((f.at':Int)+1)):=⟨_,rfl⟩
 have hfo':FrOk c { f with at':=f.at'+1 }:=⟨HFO.out.of,HFO.out.ll,HFO.out.li,HFO.out.mn,by show f.at'+1<=4000;omega,HFO.out.bs⟩
 obtain⟨f1,f2⟩:=hm2.frset hg2 HF.out.1 HF.out.2.1 1 (.int .i64 ((f.at':Int)+1)) hfo' (yu c f (f.at'+1))
 rw[<-hw3]at f1 f2
 have hxw:w1.heap.size≠fb:=by omega
 have hxg:w1.heap.size≠c.gb:=by have:=zk hg1;omega
 have hk3:w3.heap[w1.heap.size]?=some (.cells #[.int .i64 3,.int .i64 (xk:Int),.int .i64 xb] 68 (0,0)):=by rw[hw3];exact(Below.heap_setCell _ _ _ _ (by simpa using hxw)).trans hk2
 have q0:w3.cell? ⟨w1.heap.size,0,none⟩=some (.int .i64 3):=(zc hk3).trans rfl
 have q1:w3.cell? ⟨w1.heap.size,1,none⟩=some (.int .i64 (xk:Int)):=(zc hk3).trans rfl
 have q2:w3.cell? ⟨w1.heap.size,2,none⟩=some (.int .i64 xb):=(zc hk3).trans rfl
 have hxl3:w1.heap.size<w3.heap.size:=zk hk3
 have hgl3:c.gb<w3.heap.size:=zk f2
 rw[<-HUU.out]at f1
 have HM3:=zh f1
 have HG3:Hid (G8 c w3 fv sv ov u.way):=by rw[HWU.out];exact f2
 have HK3:=zh hk3
 have HC:=zh (local8 HM3.out HOK.out HG3.out HFU.out 3 xk (by omega) (by have:=HIB.out;omega) xb)
 clear hm1 hg1 hm2 hg2 f1 f2 hk3 hk2 hb1 HX HM HLA hfo' hex HCD
 generalize f.at'=at' at *
 have HS1:Hid (∀ w9,Below w1.heap.size w1 w9->w9.cell? ⟨fb,fs.length * 14,none⟩=some (.pointer (some ⟨c.pb,0,none⟩))/\w9.cell? ⟨fb,fs.length * 14+1,none⟩=some (.int .i64 (at':Int))/\w9.cell? ⟨c.pb,0,none⟩=some (.pointer (some ⟨c.ob,c.oo,none⟩))/\w9.cell? ⟨c.ob,c.oo+6,none⟩=some (.slice (some ⟨eb,eo,none⟩) c.O.code.length cc)/\w9.cell? ⟨eb,eo+at' * 3,none⟩=some (.int .i64 3)/\w9.cell? ⟨eb,eo+at' * 3+1,none⟩=some (.int .i64 (xk:Int))/\w9.cell? ⟨eb,eo+at' * 3+2,none⟩=some (.int .i64 xb)):=fun w9 hb=>⟨(hb.cell (p:=⟨fb,fs.length * 14,none⟩) hfb1).trans x0,(hb.cell (p:=⟨fb,fs.length * 14+1,none⟩) hfb1).trans x1,(hb.cell (p:=⟨c.pb,0,none⟩) hpb1).trans x2,(hb.cell (p:=⟨c.ob,c.oo+6,none⟩) hob).trans k6,(hb.cell (p:=⟨eb,eo+at' * 3,none⟩) heb).trans e0,(hb.cell (p:=⟨eb,eo+at' * 3+1,none⟩) heb).trans e1,(hb.cell (p:=⟨eb,eo+at' * 3+2,none⟩) heb).trans e2⟩
 have HS0:=zh (HS1.out _ (zt w1))
 have HSA:Hid (∀ o,(w1.alloc o).drew.cell? ⟨fb,fs.length * 14,none⟩=some (.pointer (some ⟨c.pb,0,none⟩))/\(w1.alloc o).drew.cell? ⟨fb,fs.length * 14+1,none⟩=some (.int .i64 (at':Int))/\(w1.alloc o).drew.cell? ⟨c.pb,0,none⟩=some (.pointer (some ⟨c.ob,c.oo,none⟩))/\(w1.alloc o).drew.cell? ⟨c.ob,c.oo+6,none⟩=some (.slice (some ⟨eb,eo,none⟩) c.O.code.length cc)/\(w1.alloc o).drew.cell? ⟨eb,eo+at' * 3,none⟩=some (.int .i64 3)/\(w1.alloc o).drew.cell? ⟨eb,eo+at' * 3+1,none⟩=some (.int .i64 (xk:Int))/\(w1.alloc o).drew.cell? ⟨eb,eo+at' * 3+2,none⟩=some (.int .i64 xb)):=fun o=>HS1.out _ (zb _ _).drew
 go_upto_region 1 with fail
 go_region_held3 (fun w9=>w9.cell? ⟨fb,fs.length * 14,none⟩=some (.pointer (some ⟨c.pb,0,none⟩))/\w9.cell? ⟨fb,fs.length * 14+1,none⟩=some (.int .i64 (at':Int))/\w9.cell? ⟨c.pb,0,none⟩=some (.pointer (some ⟨c.ob,c.oo,none⟩))/\w9.cell? ⟨c.ob,c.oo+6,none⟩=some (.slice (some ⟨eb,eo,none⟩) c.O.code.length cc)/\w9.cell? ⟨eb,eo+at' * 3,none⟩=some (.int .i64 3)/\w9.cell? ⟨eb,eo+at' * 3+1,none⟩=some (.int .i64 (xk:Int))/\w9.cell? ⟨eb,eo+at' * 3+2,none⟩=some (.int .i64 xb)) (with_reducible (first|exact HS0.out|exact HSA.out _)) (fail)
 rw[<-hw2]
 clear hw2 x0 x1 e0 e1 e2 k6
 go_upto_region 3 with fail
 rw[<-hw3]
 clear hw3 y0 y1
 go_wp2_with fail
 refine HC.out.mono ?_
 intro e w4 hq
 obtain⟨rfl,hw4⟩:=hq
 have HFIN:Hid (StepP c (localF 3 xk ({ f with at':=at'+1 }:Fr) fs u) (.returned (.tuple #[])) w4):=⟨rfl,hw4⟩
 clear hw4
 go_wp2_with fail
 first|exact ze rfl rfl HFIN.out|exact bodyPost_ret (v:=.tuple #[]) (by simp[results,Tryz.results76,go_sem]) rfl HFIN.out
theorem step_4 {c:Vx}{W:World}{s:St}{vv:List (List Int)}{fv sv ov:Value}(h:MM c W s vv fv sv ov) (ok:VxOk c) (hg:G8 c W fv sv ov s.way) {f:Fr}{fs:List Fr}(hf:s.frames=f :: fs) (hbs:f.base<=s.stack.length) (hat:f.at'<c.O.code.length) (hop:c.O.code[f.at'].op=4) :
  Calls Tryz.prog 76 #[.pointer (some ⟨c.gb,0,none⟩)] W (StepP c (Vm.exec c.most { f with at':=f.at'+1 } fs ⟨c.O,vv⟩ c.O.code[f.at'] (Vm.going { f with at':=f.at'+1 } fs s))):=by
 obtain⟨fb,cap,hfv,hfb,hcap,hfc⟩:=h.top hf
 have hgl:=zk hg
 have hcl:=zP ok
 have HLA:=zh (last8 h hg hf hfv)
 have hI:=ok.i64 _ (List.getElem_mem hat)
 have hIB:=inst8 ok hat
 have HCD:Hid (∀ w1,Below c.w0.heap.size c.w0 w1->∃ b o cc,w1.cell? ⟨c.ob,c.oo+6,none⟩=some (.slice (some ⟨b,o,none⟩) c.O.code.length cc)/\b<w1.heap.size/\c.ob<w1.heap.size/\w1.cell? ⟨b,o+f.at' * 3,none⟩=some (.int .i64 c.O.code[f.at'].op)/\w1.cell? ⟨b,o+f.at' * 3+1,none⟩=some (.int .i64 c.O.code[f.at'].a)/\w1.cell? ⟨b,o+f.at' * 3+2,none⟩=some (.int .i64 c.O.code[f.at'].b)):=fun w1 hb=>code8 ok hb hat
 generalize c.O.code[f.at']=x at *
 obtain⟨xop,xa,xb⟩:=x
 simp only at hop hI HCD
 subst hop
 unfold Ob.instB at hIB
 have hIB:0<=xa/\xa<10:=by simp[Ob.countsB,Ob.choices]at hIB;exact hIB.2
 obtain⟨xk,rfl⟩:∃ xk:Nat,xa=(xk:Int):=⟨xa.toNat,by omega⟩
 have hex:∀ t,Vm.exec c.most { f with at':=f.at'+1 } fs ⟨c.O,vv⟩ ⟨4,(xk:Int),xb⟩ t=localF 4 xk ({ f with at':=f.at'+1 }:Fr) fs t:=fun t=>by simp[Vm.exec,localF]
 rw[hex]
 have HM:Hid (∀ w1,Below W.heap.size W w1->MM c w1 s vv fv sv ov/\G8 c w1 fv sv ov s.way):=fun w1 hb=>⟨h.below ok hg hb,(hb.block _ hgl).trans hg⟩
 have HX:Hid (∀ w1,Below W.heap.size W w1->w1.cell? ⟨fb,fs.length * 14,none⟩=some (.pointer (some ⟨c.pb,0,none⟩))/\w1.cell? ⟨fb,fs.length * 14+1,none⟩=some (.int .i64 (f.at':Int))/\w1.cell? ⟨c.pb,0,none⟩=some (.pointer (some ⟨c.ob,c.oo,none⟩))/\fb<w1.heap.size/\c.pb<w1.heap.size/\w1.frozen? ⟨fb,fs.length * 14+1,none⟩=false):=fun w1 hb=>by
  obtain⟨m1,_⟩:=(⟨h.below ok hg hb,trivial⟩:MM c w1 s vv fv sv ov/\True)
  refine⟨(hb.cell (p:=⟨fb,fs.length * 14,none⟩) hfb).trans (hfc 0 _ rfl),(hb.cell (p:=⟨fb,fs.length * 14+1,none⟩) hfb).trans (hfc 1 _ rfl),(zc m1.pk).trans rfl,Nat.lt_of_lt_of_le hfb hb.size,zk m1.pk,?_⟩
  rcases m1.fr.2 with⟨e,_⟩|⟨g',cp',cur',e,_,hh,_⟩
  ·rw[e]at hfv;cases hfv
  ·rw[e]at hfv
   simp only [Value.slice.injEq,Option.some.injEq,Addr.mk.injEq]at hfv
   rw[<-hfv.1.1]
   exact zr hh
 have HFO:=zh (h.ff f (by rw[hf];simp))
 have HF:=zh (And.intro hf (And.intro hfv hbs))
 have HOK:=zh ok
 have HAT:=zh hat
 have hai:(f.at':Int)<4000:=by omega
 have hain:(f.at':Int)<(c.O.code.length:Int):=by omega
 obtain⟨u,hu⟩:∃ u,u=Vm.going { f with at':=f.at'+1 } fs s:=⟨_,rfl⟩
 have HFU:Hid (u.frames={ f with at':=f.at'+1 } :: fs):=by rw[hu];rfl
 have HBU:Hid (f.base<=u.stack.length):=by rw[hu];exact HF.out.2.2
 have HWU:Hid (u.way=s.way):=by rw[hu];rfl
 have HUU:=zh hu
 rw[<-hu]
 clear hu
 have HIB:=zh hIB
 clear hbs hfc hfv h hg hf hIB
 go_enter Tryz.func76,Tryz.ntmps76
 go_wp2_with fail
 refine HLA.out.mono ?_
 rintro e w1 ⟨rfl,hb1⟩
 obtain⟨x0,x1,x2,hfb1,hpb1,z1⟩:=HX.out w1 hb1
 obtain⟨hm1,hg1⟩:=HM.out w1 hb1
 obtain⟨eb,eo,cc,k6,heb,hob,e0,e1,e2⟩:=HCD.out w1 hm1.be
 obtain⟨w2,hw2⟩:∃ w2,w2=(w1.alloc (.cells #[.int .i64 4,.int .i64 (xk:Int),.int .i64 xb] 68)).drew:=⟨_,rfl⟩
 have HB2:Hid (Below w1.heap.size w1 w2):=by rw[hw2];exact(zb _ _).drew
 have hk2:w2.heap[w1.heap.size]?=some (.cells #[.int .i64 4,.int .i64 (xk:Int),.int .i64 xb] 68 (0,0)):=by rw[hw2];exact zw w1 _
 have HK2:=zh hk2
 have HB12:Hid (Below W.heap.size W w2):=hb1.trans (HB2.out.mono hb1.size)
 obtain⟨y0,y1,_,hfb2,hpb2,z2⟩:=HX.out w2 HB12.out
 obtain⟨hm2,hg2⟩:=HM.out w2 HB12.out
 obtain⟨w3,hw3⟩:∃ w3,w3=w2.setCell ⟨fb,fs.length * 14+1,none⟩ (.int .i64 ((f.at':Int)+1)):=⟨_,rfl⟩
 have hfo':FrOk c { f with at':=f.at'+1 }:=⟨HFO.out.of,HFO.out.ll,HFO.out.li,HFO.out.mn,by show f.at'+1<=4000;omega,HFO.out.bs⟩
 obtain⟨f1,f2⟩:=hm2.frset hg2 HF.out.1 HF.out.2.1 1 (.int .i64 ((f.at':Int)+1)) hfo' (yu c f (f.at'+1))
 rw[<-hw3]at f1 f2
 have hxw:w1.heap.size≠fb:=by omega
 have hxg:w1.heap.size≠c.gb:=by have:=zk hg1;omega
 have hk3:w3.heap[w1.heap.size]?=some (.cells #[.int .i64 4,.int .i64 (xk:Int),.int .i64 xb] 68 (0,0)):=by rw[hw3];exact(Below.heap_setCell _ _ _ _ (by simpa using hxw)).trans hk2
 have q0:w3.cell? ⟨w1.heap.size,0,none⟩=some (.int .i64 4):=(zc hk3).trans rfl
 have q1:w3.cell? ⟨w1.heap.size,1,none⟩=some (.int .i64 (xk:Int)):=(zc hk3).trans rfl
 have q2:w3.cell? ⟨w1.heap.size,2,none⟩=some (.int .i64 xb):=(zc hk3).trans rfl
 have hxl3:w1.heap.size<w3.heap.size:=zk hk3
 have hgl3:c.gb<w3.heap.size:=zk f2
 rw[<-HUU.out]at f1
 have HM3:=zh f1
 have HG3:Hid (G8 c w3 fv sv ov u.way):=by rw[HWU.out];exact f2
 have HK3:=zh hk3
 have HC:=zh (local8 HM3.out HOK.out HG3.out HFU.out 4 xk (by omega) (by have:=HIB.out;omega) xb)
 clear hm1 hg1 hm2 hg2 f1 f2 hk3 hk2 hb1 HX HM HLA hfo' hex HCD
 generalize f.at'=at' at *
 have HS1:Hid (∀ w9,Below w1.heap.size w1 w9->w9.cell? ⟨fb,fs.length * 14,none⟩=some (.pointer (some ⟨c.pb,0,none⟩))/\w9.cell? ⟨fb,fs.length * 14+1,none⟩=some (.int .i64 (at':Int))/\w9.cell? ⟨c.pb,0,none⟩=some (.pointer (some ⟨c.ob,c.oo,none⟩))/\w9.cell? ⟨c.ob,c.oo+6,none⟩=some (.slice (some ⟨eb,eo,none⟩) c.O.code.length cc)/\w9.cell? ⟨eb,eo+at' * 3,none⟩=some (.int .i64 4)/\w9.cell? ⟨eb,eo+at' * 3+1,none⟩=some (.int .i64 (xk:Int))/\w9.cell? ⟨eb,eo+at' * 3+2,none⟩=some (.int .i64 xb)):=fun w9 hb=>⟨(hb.cell (p:=⟨fb,fs.length * 14,none⟩) hfb1).trans x0,(hb.cell (p:=⟨fb,fs.length * 14+1,none⟩) hfb1).trans x1,(hb.cell (p:=⟨c.pb,0,none⟩) hpb1).trans x2,(hb.cell (p:=⟨c.ob,c.oo+6,none⟩) hob).trans k6,(hb.cell (p:=⟨eb,eo+at' * 3,none⟩) heb).trans e0,(hb.cell (p:=⟨eb,eo+at' * 3+1,none⟩) heb).trans e1,(hb.cell (p:=⟨eb,eo+at' * 3+2,none⟩) heb).trans e2⟩
 have HS0:=zh (HS1.out _ (zt w1))
 have HSA:Hid (∀ o,(w1.alloc o).drew.cell? ⟨fb,fs.length * 14,none⟩=some (.pointer (some ⟨c.pb,0,none⟩))/\(w1.alloc o).drew.cell? ⟨fb,fs.length * 14+1,none⟩=some (.int .i64 (at':Int))/\(w1.alloc o).drew.cell? ⟨c.pb,0,none⟩=some (.pointer (some ⟨c.ob,c.oo,none⟩))/\(w1.alloc o).drew.cell? ⟨c.ob,c.oo+6,none⟩=some (.slice (some ⟨eb,eo,none⟩) c.O.code.length cc)/\(w1.alloc o).drew.cell? ⟨eb,eo+at' * 3,none⟩=some (.int .i64 4)/\(w1.alloc o).drew.cell? ⟨eb,eo+at' * 3+1,none⟩=some (.int .i64 (xk:Int))/\(w1.alloc o).drew.cell? ⟨eb,eo+at' * 3+2,none⟩=some (.int .i64 xb)):=fun o=>HS1.out _ (zb _ _).drew
 go_upto_region 1 with fail
 go_region_held3 (fun w9=>w9.cell? ⟨fb,fs.length * 14,none⟩=some (.pointer (some ⟨c.pb,0,none⟩))/\w9.cell? ⟨fb,fs.length * 14+1,none⟩=some (.int .i64 (at':Int))/\w9.cell? ⟨c.pb,0,none⟩=some (.pointer (some ⟨c.ob,c.oo,none⟩))/\w9.cell? ⟨c.ob,c.oo+6,none⟩=some (.slice (some ⟨eb,eo,none⟩) c.O.code.length cc)/\w9.cell? ⟨eb,eo+at' * 3,none⟩=some (.int .i64 4)/\w9.cell? ⟨eb,eo+at' * 3+1,none⟩=some (.int .i64 (xk:Int))/\w9.cell? ⟨eb,eo+at' * 3+2,none⟩=some (.int .i64 xb)) (with_reducible (first|exact HS0.out|exact HSA.out _)) (fail)
 rw[<-hw2]
 clear hw2 x0 x1 e0 e1 e2 k6
 go_upto_region 3 with fail
 rw[<-hw3]
 clear hw3 y0 y1
 go_wp2_with fail
 refine HC.out.mono ?_
 intro e w4 hq
 obtain⟨rfl,hw4⟩:=hq
 have HFIN:Hid (StepP c (localF 4 xk ({ f with at':=at'+1 }:Fr) fs u) (.returned (.tuple #[])) w4):=⟨rfl,hw4⟩
 clear hw4
 go_wp2_with fail
 first|exact ze rfl rfl HFIN.out|exact bodyPost_ret (v:=.tuple #[]) (by simp[results,Tryz.results76,go_sem]) rfl HFIN.out
theorem step_5 {c:Vx}{W:World}{s:St}{vv:List (List Int)}{fv sv ov:Value}(h:MM c W s vv fv sv ov) (ok:VxOk c) (hg:G8 c W fv sv ov s.way) {f:Fr}{fs:List Fr}(hf:s.frames=f :: fs) (hbs:f.base<=s.stack.length) (hat:f.at'<c.O.code.length) (hop:c.O.code[f.at'].op=5) :
  Calls Tryz.prog 76 #[.pointer (some ⟨c.gb,0,none⟩)] W (StepP c (Vm.exec c.most { f with at':=f.at'+1 } fs ⟨c.O,vv⟩ c.O.code[f.at'] (Vm.going { f with at':=f.at'+1 } fs s))):=by
 obtain⟨fb,cap,hfv,hfb,hcap,hfc⟩:=h.top hf
 have hgl:=zk hg
 have hcl:=zP ok
 have HLA:=zh (last8 h hg hf hfv)
 have hI:=ok.i64 _ (List.getElem_mem hat)
 have hIB:=inst8 ok hat
 have HCD:Hid (∀ w1,Below c.w0.heap.size c.w0 w1->∃ b o cc,w1.cell? ⟨c.ob,c.oo+6,none⟩=some (.slice (some ⟨b,o,none⟩) c.O.code.length cc)/\b<w1.heap.size/\c.ob<w1.heap.size/\w1.cell? ⟨b,o+f.at' * 3,none⟩=some (.int .i64 c.O.code[f.at'].op)/\w1.cell? ⟨b,o+f.at' * 3+1,none⟩=some (.int .i64 c.O.code[f.at'].a)/\w1.cell? ⟨b,o+f.at' * 3+2,none⟩=some (.int .i64 c.O.code[f.at'].b)):=fun w1 hb=>code8 ok hb hat
 generalize c.O.code[f.at']=x at *
 obtain⟨xop,xa,xb⟩:=x
 simp only at hop hI HCD
 subst hop
 unfold Ob.instB at hIB
 have hIB:=reach8 ok (by simpa using hIB)
 simp only at hIB
 obtain⟨rfl,hI1,hI2⟩:=hIB
 obtain⟨xk,rfl⟩:∃ xk:Nat,xa=(xk:Int):=⟨xa.toNat,by omega⟩
 have hvk:xk<vv.length:=by rw[h.vn];omega
 have hIB:=True.intro
 have hex:∀ t,Vm.exec c.most { f with at':=f.at'+1 } fs ⟨c.O,vv⟩ ⟨5,(xk:Int),(-1)⟩ t=Vm.give (vv.getD xk []) 0 t:=fun t=>by simp[Vm.exec,Vm.reached]
 rw[hex]
 have HM:Hid (∀ w1,Below W.heap.size W w1->MM c w1 s vv fv sv ov/\G8 c w1 fv sv ov s.way):=fun w1 hb=>⟨h.below ok hg hb,(hb.block _ hgl).trans hg⟩
 have HX:Hid (∀ w1,Below W.heap.size W w1->w1.cell? ⟨fb,fs.length * 14,none⟩=some (.pointer (some ⟨c.pb,0,none⟩))/\w1.cell? ⟨fb,fs.length * 14+1,none⟩=some (.int .i64 (f.at':Int))/\w1.cell? ⟨c.pb,0,none⟩=some (.pointer (some ⟨c.ob,c.oo,none⟩))/\fb<w1.heap.size/\c.pb<w1.heap.size/\w1.frozen? ⟨fb,fs.length * 14+1,none⟩=false):=fun w1 hb=>by
  obtain⟨m1,_⟩:=(⟨h.below ok hg hb,trivial⟩:MM c w1 s vv fv sv ov/\True)
  refine⟨(hb.cell (p:=⟨fb,fs.length * 14,none⟩) hfb).trans (hfc 0 _ rfl),(hb.cell (p:=⟨fb,fs.length * 14+1,none⟩) hfb).trans (hfc 1 _ rfl),(zc m1.pk).trans rfl,Nat.lt_of_lt_of_le hfb hb.size,zk m1.pk,?_⟩
  rcases m1.fr.2 with⟨e,_⟩|⟨g',cp',cur',e,_,hh,_⟩
  ·rw[e]at hfv;cases hfv
  ·rw[e]at hfv
   simp only [Value.slice.injEq,Option.some.injEq,Addr.mk.injEq]at hfv
   rw[<-hfv.1.1]
   exact zr hh
 have HFO:=zh (h.ff f (by rw[hf];simp))
 have HF:=zh (And.intro hf (And.intro hfv hbs))
 have HOK:=zh ok
 have HAT:=zh hat
 have hai:(f.at':Int)<4000:=by omega
 have hain:(f.at':Int)<(c.O.code.length:Int):=by omega
 obtain⟨u,hu⟩:∃ u,u=Vm.going { f with at':=f.at'+1 } fs s:=⟨_,rfl⟩
 have HFU:Hid (u.frames={ f with at':=f.at'+1 } :: fs):=by rw[hu];rfl
 have HBU:Hid (f.base<=u.stack.length):=by rw[hu];exact HF.out.2.2
 have HWU:Hid (u.way=s.way):=by rw[hu];rfl
 have HUU:=zh hu
 rw[<-hu]
 clear hu
 have HIB:=zh hIB
 clear hbs hfc hfv h hg hf hIB
 go_enter Tryz.func76,Tryz.ntmps76
 go_wp2_with fail
 refine HLA.out.mono ?_
 rintro e w1 ⟨rfl,hb1⟩
 obtain⟨x0,x1,x2,hfb1,hpb1,z1⟩:=HX.out w1 hb1
 obtain⟨hm1,hg1⟩:=HM.out w1 hb1
 obtain⟨eb,eo,cc,k6,heb,hob,e0,e1,e2⟩:=HCD.out w1 hm1.be
 obtain⟨w2,hw2⟩:∃ w2,w2=(w1.alloc (.cells #[.int .i64 5,.int .i64 (xk:Int),.int .i64 (-1)] 68)).drew:=⟨_,rfl⟩
 have HB2:Hid (Below w1.heap.size w1 w2):=by rw[hw2];exact(zb _ _).drew
 have hk2:w2.heap[w1.heap.size]?=some (.cells #[.int .i64 5,.int .i64 (xk:Int),.int .i64 (-1)] 68 (0,0)):=by rw[hw2];exact zw w1 _
 have HK2:=zh hk2
 have HB12:Hid (Below W.heap.size W w2):=hb1.trans (HB2.out.mono hb1.size)
 obtain⟨y0,y1,_,hfb2,hpb2,z2⟩:=HX.out w2 HB12.out
 obtain⟨hm2,hg2⟩:=HM.out w2 HB12.out
 obtain⟨w3,hw3⟩:∃ w3,w3=w2.setCell ⟨fb,fs.length * 14+1,none⟩ (.int .i64 ((f.at':Int)+1)):=⟨_,rfl⟩
 have hfo':FrOk c { f with at':=f.at'+1 }:=⟨HFO.out.of,HFO.out.ll,HFO.out.li,HFO.out.mn,by show f.at'+1<=4000;omega,HFO.out.bs⟩
 obtain⟨f1,f2⟩:=hm2.frset hg2 HF.out.1 HF.out.2.1 1 (.int .i64 ((f.at':Int)+1)) hfo' (yu c f (f.at'+1))
 rw[<-hw3]at f1 f2
 have hxw:w1.heap.size≠fb:=by omega
 have hxg:w1.heap.size≠c.gb:=by have:=zk hg1;omega
 have hk3:w3.heap[w1.heap.size]?=some (.cells #[.int .i64 5,.int .i64 (xk:Int),.int .i64 (-1)] 68 (0,0)):=by rw[hw3];exact(Below.heap_setCell _ _ _ _ (by simpa using hxw)).trans hk2
 have q0:w3.cell? ⟨w1.heap.size,0,none⟩=some (.int .i64 5):=(zc hk3).trans rfl
 have q1:w3.cell? ⟨w1.heap.size,1,none⟩=some (.int .i64 (xk:Int)):=(zc hk3).trans rfl
 have q2:w3.cell? ⟨w1.heap.size,2,none⟩=some (.int .i64 (-1)):=(zc hk3).trans rfl
 have hxl3:w1.heap.size<w3.heap.size:=zk hk3
 have hgl3:c.gb<w3.heap.size:=zk f2
 rw[<-HUU.out]at f1
 have HM3:=zh f1
 have HG3:Hid (G8 c w3 fv sv ov u.way):=by rw[HWU.out];exact f2
 have HK3:=zh hk3
 have HC:=zh (reached8 HM3.out HOK.out HG3.out HFU.out hvk 5)
 have HGV:Hid (∀ w4,Below w3.heap.size w3 w4->Calls Tryz.prog 108 #[.pointer (some ⟨c.gb,0,none⟩),c.vsl xk,.int .i64 0] w4 (StepP c (Vm.give (vv.getD xk []) 0 u))):=fun w4 hb=>by
  rw[List.getD_eq_getElem?_getD,List.getElem?_eq_getElem hvk]
  exact give8 (HM3.out.below HOK.out HG3.out hb) HOK.out ((hb.block _ (zk HG3.out)).trans HG3.out) hvk 0
 clear hm1 hg1 hm2 hg2 f1 f2 hk3 hk2 hb1 HX HM HLA hfo' hex HCD
 generalize f.at'=at' at *
 have HS1:Hid (∀ w9,Below w1.heap.size w1 w9->w9.cell? ⟨fb,fs.length * 14,none⟩=some (.pointer (some ⟨c.pb,0,none⟩))/\w9.cell? ⟨fb,fs.length * 14+1,none⟩=some (.int .i64 (at':Int))/\w9.cell? ⟨c.pb,0,none⟩=some (.pointer (some ⟨c.ob,c.oo,none⟩))/\w9.cell? ⟨c.ob,c.oo+6,none⟩=some (.slice (some ⟨eb,eo,none⟩) c.O.code.length cc)/\w9.cell? ⟨eb,eo+at' * 3,none⟩=some (.int .i64 5)/\w9.cell? ⟨eb,eo+at' * 3+1,none⟩=some (.int .i64 (xk:Int))/\w9.cell? ⟨eb,eo+at' * 3+2,none⟩=some (.int .i64 (-1))):=fun w9 hb=>⟨(hb.cell (p:=⟨fb,fs.length * 14,none⟩) hfb1).trans x0,(hb.cell (p:=⟨fb,fs.length * 14+1,none⟩) hfb1).trans x1,(hb.cell (p:=⟨c.pb,0,none⟩) hpb1).trans x2,(hb.cell (p:=⟨c.ob,c.oo+6,none⟩) hob).trans k6,(hb.cell (p:=⟨eb,eo+at' * 3,none⟩) heb).trans e0,(hb.cell (p:=⟨eb,eo+at' * 3+1,none⟩) heb).trans e1,(hb.cell (p:=⟨eb,eo+at' * 3+2,none⟩) heb).trans e2⟩
 have HS0:=zh (HS1.out _ (zt w1))
 have HSA:Hid (∀ o,(w1.alloc o).drew.cell? ⟨fb,fs.length * 14,none⟩=some (.pointer (some ⟨c.pb,0,none⟩))/\(w1.alloc o).drew.cell? ⟨fb,fs.length * 14+1,none⟩=some (.int .i64 (at':Int))/\(w1.alloc o).drew.cell? ⟨c.pb,0,none⟩=some (.pointer (some ⟨c.ob,c.oo,none⟩))/\(w1.alloc o).drew.cell? ⟨c.ob,c.oo+6,none⟩=some (.slice (some ⟨eb,eo,none⟩) c.O.code.length cc)/\(w1.alloc o).drew.cell? ⟨eb,eo+at' * 3,none⟩=some (.int .i64 5)/\(w1.alloc o).drew.cell? ⟨eb,eo+at' * 3+1,none⟩=some (.int .i64 (xk:Int))/\(w1.alloc o).drew.cell? ⟨eb,eo+at' * 3+2,none⟩=some (.int .i64 (-1))):=fun o=>HS1.out _ (zb _ _).drew
 go_upto_region 1 with fail
 go_region_held3 (fun w9=>w9.cell? ⟨fb,fs.length * 14,none⟩=some (.pointer (some ⟨c.pb,0,none⟩))/\w9.cell? ⟨fb,fs.length * 14+1,none⟩=some (.int .i64 (at':Int))/\w9.cell? ⟨c.pb,0,none⟩=some (.pointer (some ⟨c.ob,c.oo,none⟩))/\w9.cell? ⟨c.ob,c.oo+6,none⟩=some (.slice (some ⟨eb,eo,none⟩) c.O.code.length cc)/\w9.cell? ⟨eb,eo+at' * 3,none⟩=some (.int .i64 5)/\w9.cell? ⟨eb,eo+at' * 3+1,none⟩=some (.int .i64 (xk:Int))/\w9.cell? ⟨eb,eo+at' * 3+2,none⟩=some (.int .i64 (-1))) (with_reducible (first|exact HS0.out|exact HSA.out _)) (fail)
 rw[<-hw2]
 clear hw2 x0 x1 e0 e1 e2 k6
 go_upto_region 3 with fail
 rw[<-hw3]
 clear hw3 y0 y1
 go_wp2_with fail
 refine HC.out.mono ?_
 rintro e w4 ⟨rfl,hb4⟩
 have HC2:=zh (HGV.out w4 hb4)
 clear hb4 HGV
 unfold Vx.vsl at HC2 ⊢
 go_wp2_with fail
 refine HC2.out.mono ?_
 intro e w5 hq
 obtain⟨rfl,hw5⟩:=hq
 have HFIN:Hid (StepP c (Vm.give (vv.getD xk []) 0 u) (.returned (.tuple #[])) w5):=⟨rfl,hw5⟩
 clear hw5
 go_wp2_with fail
 first|exact ze rfl rfl HFIN.out|exact bodyPost_ret (v:=.tuple #[]) (by simp[results,Tryz.results76,go_sem]) rfl HFIN.out
def Bs8:List Fr->Nat->Prop
 | [],_=>True
 | f :: fs,n=>f.base<=n/\Bs8 fs f.base
structure Inv (o:O) (s:Vm.St):Prop where
 ne:s.frames≠[]
 at':∀ f∈s.frames,f.at'<o.code.length
 bs:Bs8 s.frames s.stack.length
theorem zU {s:Vm.St}{b:Nat}{k:Int->Vm.St->Vm.St}(h:(Vm.taken b s k).way=0):∃ n r,s.stack=n :: r/\b<=r.length/\Vm.taken b s k=k n { s with stack:=r }:=by
 by_cases hl:s.stack.length<=b
 ·rw[yf hl]at h
  cases h
 ·cases hs:s.stack with
  | nil=>rw[hs]at hl;simp at hl
  | cons n r =>
   refine⟨n,r,rfl,?_,zM hs hl⟩
   rw[hs,List.length_cons]at hl
   omega
theorem jh {s:Vm.St}{n:Int}(h:(Vm.put n s).way=0):Vm.put n s={ s with stack:=n :: s.stack }:=by
 unfold Vm.put at h ⊢
 split at h
 ·cases h
 ·rename_i hc
  rw[if_neg hc]
theorem give_way {s:Vm.St}{l:List Int}{k:Int}(h:(Vm.give l k s).way=0):∃ n,Vm.give l k s={ s with stack:=n :: s.stack }:=by
 unfold Vm.give at h ⊢
 split at h
 ·rename_i hc
  rw[if_pos hc]
  exact⟨_,jh h⟩
 ·cases h
theorem set_way {s:Vm.St}{of:Tp.Bs}{p:Pl}{i:Nat}{k n:Int}(h:(Vm.set of p i k n s).way=0):∃ th,Vm.set of p i k n s={ s with there:=th }:=by
 unfold Vm.set at h ⊢
 split at h
 ·rename_i hc
  rw[if_pos hc]
  exact⟨_,rfl⟩
 ·cases h
theorem reckon_way {s:Vm.St}{op:Tp.Bs}{a b:Int}(h:(Vm.reckon op a b s).way=0):∃ n,Vm.reckon op a b s={ s with stack:=n :: s.stack }:=by
 unfold Vm.reckon at h ⊢
 cases hb:Tp.both op a b with
 | none=>rw[hb]at h;cases h
 | some n=>rw[hb]at h;exact⟨n,jh h⟩
theorem takes_way {b:Nat}{k:List Int->Vm.St->Vm.St}:∀(n:Nat) (l:List Int) (s:Vm.St),(Vm.takes b n l s k).way=0->b<=s.stack.length->∃ l' r,b<=r.length/\Vm.takes b n l s k=k l' { s with stack:=r }:=by
 intro n
 induction n with
 | zero=>intro l s _ hb;exact⟨l,s.stack,hb,rfl⟩
 | succ n ih =>
  intro l s h _
  rw[Vm.takes]at h ⊢
  obtain⟨v,r,hs,hr,e⟩:=zU h
  rw[e]at h ⊢
  exact ih (v :: l) { s with stack:=r } h hr
theorem last_op {o:O}(rt:Ob.rightB o=true) {i:Nat}(hi:i<o.code.length) (h:¬i+1<o.code.length):o.code[i].op=12\/o.code[i].op=15\/o.code[i].op=17:=by
 unfold Ob.rightB Ob.codeB at rt
 simp only [Bool.and_eq_true]at rt
 have hl:=rt.2.2.2
 unfold Ob.lastB at hl
 have e:o.code.getLast?=some o.code[i]:=by
  rw[List.getLast?_eq_getElem?,show o.code.length - 1=i by omega,List.getElem?_eq_getElem hi]
 rw[e]at hl
 simpa using hl
theorem inv_step {c:Vx}(ok:VxOk c) {s:Vm.St}{vv:List (List Int)}(th:s.there=thr c.O vv) (hof:∀ f∈s.frames,f.of=c.O.name) (inv:Inv c.O s) (h:(Vm.step c.most s).way=0):Inv c.O (Vm.step c.most s):=by
 obtain⟨f,fs,hf⟩:∃ f fs,s.frames=f :: fs:=by
  cases hq:s.frames with
  | nil=>exact absurd hq inv.ne
  | cons f fs=>exact⟨f,fs,rfl⟩
 have hat:f.at'<c.O.code.length:=inv.at' f (by rw[hf];simp)
 have hatf:∀ x∈fs,x.at'<c.O.code.length:=fun x hx=>inv.at' x (by rw[hf];exact List.mem_cons_of_mem _ hx)
 have hbs:=inv.bs
 rw[hf]at hbs
 obtain⟨hb1,hb2⟩:=hbs
 have hfo:f.of=c.O.name:=hof f (by rw[hf];simp)
 have e:Vm.step c.most s=Vm.exec c.most { f with at':=f.at'+1 } fs ⟨c.O,vv⟩ c.O.code[f.at'] (Vm.going { f with at':=f.at'+1 } fs s):=by
  unfold Vm.step
  rw[hf]
  simp only
  rw[th,hfo,thr,if_pos rfl]
  simp only
  rw[List.getElem?_eq_getElem hat]
 rw[e]at h ⊢
 clear e
 have hIB:=inst8 ok hat
 have hG:∀(f':Fr) (t:Vm.St),f'.at'<c.O.code.length->f'.base=f.base->t.frames=f' :: fs->f.base<=t.stack.length->Inv c.O t:=fun f' t hk hb h1 h2=>⟨by rw[h1];simp,fun x hx=>by
  rw[h1]at hx
  rcases List.mem_cons.1 hx with rfl|hx
  ·exact hk
  ·exact hatf x hx,by rw[h1];exact⟨by rw[hb];exact h2,by rw[hb];exact hb2⟩⟩
 have hN:c.O.code[f.at'].op≠12->c.O.code[f.at'].op≠15->c.O.code[f.at'].op≠17->f.at'+1<c.O.code.length:=fun h1 h2 h3=>by
  by_cases q:f.at'+1<c.O.code.length
  ·exact q
  ·rcases last_op ok.rt hat q with z|z|z
   ·exact absurd z h1
   ·exact absurd z h2
   ·exact absurd z h3
 have huf:(Vm.going { f with at':=f.at'+1 } fs s).frames={ f with at':=f.at'+1 } :: fs:=rfl
 have hus:f.base<=(Vm.going { f with at':=f.at'+1 } fs s).stack.length:=hb1
 generalize Vm.going { f with at':=f.at'+1 } fs s=u at *
 generalize c.O.code[f.at']=x at *
 unfold Ob.instB at hIB
 unfold Vm.exec at h ⊢
 have hM:∀ t:Vm.St,t.frames={ f with at':=f.at'+1 } :: fs->f.base<=t.stack.length->x.op≠12->x.op≠15->x.op≠17->Inv c.O t:=fun t h1 h2 n1 n2 n3=>hG { f with at':=f.at'+1 } t (hN n1 n2 n3) rfl h1 h2
 by_cases o1:x.op=1
 ·rw[if_pos o1]at h ⊢
  rw[jh h]
  exact hM _ huf (by simp only [List.length_cons];omega) (by omega) (by omega) (by omega)
 rw[if_neg o1]at h ⊢
 by_cases o2:x.op=2
 ·rw[if_pos o2]at h ⊢
  obtain⟨n,r,hs,hr',e⟩:=zU h;have hr:f.base<=r.length:=hr'
  rw[e]
  exact hM _ huf hr (by omega) (by omega) (by omega)
 rw[if_neg o2]at h ⊢
 by_cases o3:x.op=3
 ·rw[if_pos o3]at h ⊢
  by_cases q:(f.many:Int)<=x.a
  ·rw[if_pos q]at h;cases h
  ·rw[if_neg q]at h ⊢
   rw[jh h]
   exact hM _ huf (by simp only [List.length_cons];omega) (by omega) (by omega) (by omega)
 rw[if_neg o3]at h ⊢
 by_cases o4:x.op=4
 ·rw[if_pos o4]at h ⊢
  by_cases q:(f.many:Int)<=x.a
  ·rw[if_pos q]at h;cases h
  ·rw[if_neg q]at h ⊢
   obtain⟨n,r,hs,hr',e⟩:=zU h;have hr:f.base<=r.length:=hr'
   rw[e]
   exact hG { f with at':=f.at'+1,locals:=f.locals.set x.a.toNat n } _ (hN (by omega) (by omega) (by omega)) rfl rfl hr
 rw[if_neg o4]at h ⊢
 by_cases o5:x.op=5
 ·rw[if_pos o5]at h ⊢
  obtain⟨n,e⟩:=give_way h
  rw[e]
  exact hM _ huf (by simp only [List.length_cons];omega) (by omega) (by omega) (by omega)
 rw[if_neg o5]at h ⊢
 by_cases o6:x.op=6
 ·rw[if_pos o6]at h ⊢
  obtain⟨n,r,hs,hr',e⟩:=zU h;have hr:f.base<=r.length:=hr'
  rw[e]at h ⊢
  obtain⟨t,e2⟩:=set_way h
  rw[e2]
  exact hM _ huf hr (by omega) (by omega) (by omega)
 rw[if_neg o6]at h ⊢
 by_cases o7:x.op=7
 ·rw[if_pos o7]at h ⊢
  obtain⟨n,r,hs,hr',e⟩:=zU h;have hr:f.base<=r.length:=hr'
  rw[e]at h ⊢
  obtain⟨m,e2⟩:=give_way h
  rw[e2]
  exact hM _ huf (by simp only [List.length_cons];omega) (by omega) (by omega) (by omega)
 rw[if_neg o7]at h ⊢
 by_cases o8:x.op=8
 ·rw[if_pos o8]at h ⊢
  obtain⟨n,r,hs,hr',e⟩:=zU h;have hr:f.base<=r.length:=hr'
  rw[e]at h ⊢
  obtain⟨n2,r2,hs2,hr2',e2⟩:=zU h;have hr2:f.base<=r2.length:=hr2'
  rw[e2]at h ⊢
  obtain⟨t,e3⟩:=set_way h
  rw[e3]
  exact hM _ huf hr2 (by omega) (by omega) (by omega)
 rw[if_neg o8]at h ⊢
 by_cases o9:x.op=9
 ·rw[if_pos o9]at h ⊢
  obtain⟨n,r,hs,hr',e⟩:=zU h;have hr:f.base<=r.length:=hr'
  rw[e]at h ⊢
  obtain⟨n2,r2,hs2,hr2',e2⟩:=zU h;have hr2:f.base<=r2.length:=hr2'
  rw[e2]at h ⊢
  obtain⟨t,e3⟩:=reckon_way h
  rw[e3]
  exact hM _ huf (by simp only [List.length_cons];omega) (by omega) (by omega) (by omega)
 rw[if_neg o9]at h ⊢
 by_cases o10:x.op=10
 ·rw[if_pos o10]at h ⊢
  obtain⟨n,r,hs,hr',e⟩:=zU h;have hr:f.base<=r.length:=hr'
  rw[e]at h ⊢
  rw[jh h]
  exact hM _ huf (by simp only [List.length_cons];omega) (by omega) (by omega) (by omega)
 rw[if_neg o10]at h ⊢
 by_cases o11:x.op=11
 ·rw[if_pos o11]at h ⊢
  obtain⟨n,r,hs,hr',e⟩:=zU h;have hr:f.base<=r.length:=hr'
  rw[e]at h ⊢
  rw[jh h]
  exact hM _ huf (by simp only [List.length_cons];omega) (by omega) (by omega) (by omega)
 rw[if_neg o11]at h ⊢
 by_cases o12:x.op=12
 ·rw[if_pos o12]at h ⊢
  have hj:0<=x.a/\x.a<(c.O.code.length:Int):=by simp[o12,Ob.countsB,Ob.choices]at hIB;exact hIB.2
  exact hG { f with at':=x.a.toNat } _ (by show x.a.toNat<_;omega) rfl rfl hus
 rw[if_neg o12]at h ⊢
 by_cases o13:x.op=13
 ·rw[if_pos o13]at h ⊢
  have hj:0<=x.a/\x.a<(c.O.code.length:Int):=by simp[o13,Ob.countsB,Ob.choices]at hIB;exact hIB.2
  obtain⟨n,r,hs,hr',e⟩:=zU h;have hr:f.base<=r.length:=hr'
  rw[e]at h ⊢
  by_cases q:n=0
  ·rw[if_pos q]
   exact hG { f with at':=x.a.toNat } _ (by show x.a.toNat<_;omega) rfl rfl hr
  ·rw[if_neg q]
   exact hM _ huf hr (by omega) (by omega) (by omega)
 rw[if_neg o13]at h ⊢
 by_cases o14:x.op=14
 ·rw[if_pos o14]at h ⊢
  have hj:=reach8 ok (x:=x) (own:=c.O.procs.length) (by simpa[o14] using hIB)
  have hn:f.at'+1<c.O.code.length:=hN (by omega) (by omega) (by omega)
  rw[if_pos (by omega)]at h ⊢
  have hi:x.a.toNat<c.O.procs.length:=by omega
  unfold Vm.invoke at h ⊢
  by_cases q:u.frames.length=c.most
  ·rw[if_pos q]at h;cases h
  ·rw[if_neg q]at h ⊢
   obtain⟨l,r,hr',e⟩:=takes_way _ _ _ h hus;have hr:f.base<=r.length:=hr'
   rw[e]
   obtain⟨a,ar,m,e1,e2,e3,e4,_⟩:=ent8 ok hi
   unfold Vm.enter
   show Inv c.O (match c.O.procs[x.a.toNat]? with|some e=>_|none=>_)
   rw[List.getElem?_eq_getElem hi]
   refine⟨by simp,fun y hy=>?_,?_⟩
   ·rcases List.mem_cons.1 hy with rfl|hy
    ·show (c.O.procs[x.a.toNat].at').toNat<_
     rw[e1]
     simpa using e4
    ·rw[show ({ u with stack:=r }:Vm.St).frames=_ from huf]at hy
     rcases List.mem_cons.1 hy with rfl|hy
     ·exact hn
     ·exact hatf y hy
   ·refine⟨Nat.le_refl _,?_⟩
    rw[show ({ u with stack:=r }:Vm.St).frames=_ from huf]
    exact⟨hr,hb2⟩
 rw[if_neg o14]at h ⊢
 by_cases o15:x.op=15
 ·rw[if_pos o15]at h ⊢
  unfold Vm.leave at h ⊢
  obtain⟨n,r,hs,hr',e⟩:=zU h;have hr:f.base<=r.length:=hr'
  rw[e]at h ⊢
  simp only [huf]at h ⊢
  by_cases q:fs=[]
  ·rw[if_pos q]at h;cases h
  ·rw[if_neg q]
   refine⟨q,fun y hy=>hatf y hy,?_⟩
   obtain⟨g,gs,rfl⟩:∃ g gs,fs=g :: gs:=by
    cases fs with
    | nil=>exact absurd rfl q
    | cons g gs=>exact⟨g,gs,rfl⟩
   refine⟨?_,hb2.2⟩
   have:=hb2.1
   show g.base<=(n :: r.drop (r.length - f.base)).length
   rw[List.length_cons,List.length_drop]
   omega
 rw[if_neg o15]at h ⊢
 by_cases o16:x.op=16
 ·rw[if_pos o16]at h ⊢
  unfold Vm.say at h ⊢
  obtain⟨n,r,hs,hr',e⟩:=zU h;have hr:f.base<=r.length:=hr'
  rw[e]at h ⊢
  by_cases q:u.out.length=200
  ·rw[if_pos q]at h;cases h
  ·rw[if_neg q]
   exact hM _ huf hr (by omega) (by omega) (by omega)
 rw[if_neg o16]at h
 cases h
end Go.Proofs.YtmnedfdffbbchaaGreatDoor.Jo
