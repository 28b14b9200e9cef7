import Derived.Test.YtmnedfdffbbchaaGreatDoorKSb
import Derived.Test.YtmnedfdffbbchaaGreatDoorKIa
set_option maxRecDepth 100000
set_option maxHeartbeats 4000000

namespace Go.Proofs.YtmnedfdffbbchaaGreatDoor.Jo
open Go.RowKit Go.Sort
open Ob (O In I64)
open Tp (Bs)
theorem yY {w wz:World}{u0 u1 u2:Value}(hb:Below w.heap.size w wz) (hr:wz.heap[w.heap.size]?=some (.cells #[u0,u1,u2] 68 (0,0))) (v0 v1 v2:Value):Hid (Below w.heap.size w (((wz.setCell ⟨w.heap.size,0,none⟩ v0).setCell ⟨w.heap.size,1,none⟩ v1).setCell ⟨w.heap.size,2,none⟩ v2)/\∀ j,(((wz.setCell ⟨w.heap.size,0,none⟩ v0).setCell ⟨w.heap.size,1,none⟩ v1).setCell ⟨w.heap.size,2,none⟩ v2).cell? ⟨w.heap.size,j,none⟩=(#[v0,v1,v2]:Array Value)[j]?) :=
 ⟨((hb.setCell zn _).setCell zn _).setCell zn _,fun _=>zc (zC 2 _ (zC 1 _ (zC 0 _ hr)))⟩
theorem in3 {w:World}{b:Nat}{u0 u1 u2:Value}(h:w.heap[b]?=some (.cells #[u0,u1,u2] 68 (0,0))):b<w.heap.size/\w.cell? ⟨b,0,none⟩=some u0/\w.cell? ⟨b,1,none⟩=some u1/\w.cell? ⟨b,2,none⟩=some u2/\∀ j,w.frozen? ⟨b,j,none⟩=false:=⟨zk h,(zc h).trans rfl,(zc h).trans rfl,(zc h).trans rfl,fun _=>zr h⟩
def StrP (w:World) (y:In) (e:Ending) (w':World):Prop:=e=.returned (iA y)/\Below w.heap.size w w'
theorem xT {w:World}{wb ob g cap:Nat}{o:O}(hO:Vm.Okc o) (h:CodeAt w wb ob g cap o.code) {i:Nat}{x:In}(hx:o.code[i]?=some x):Calls Tryz.prog 79 #[.pointer (some ⟨wb,0,none⟩),.int .i64 (i:Int)] w (StrP w (Vm.strF o.code i x)):=by
 have hi:i<o.code.length:=(List.getElem?_eq_some_iff.1 hx).1
 have hn4:=hO.n4
 have HON:=zh (fun (W:World) (hb:Below w.heap.size w W) (a:Nat) (ha:a<o.code.length)=>xe hO (h.on hb) ha)
 have HONL:=zh (fun (a:Nat) (ha:a<o.code.length)=>(Vm.onward_ok hO ha).1)
 have hlab:=hO.lab x (List.mem_of_getElem? hx)
 obtain⟨x0,x1,x2⟩:=h.at' i x hx
 have HCA:=zh h.at'
 have k0:=h.k0
 have k6:=h.k6
 have hg:=h.lg
 have hw:=zi k0
 have hob:=zi k6
 have hcp:(o.code.length:Int)<=cap:=by have:=h.lc;omega
 have hii:(i:Int)<o.code.length:=by omega
 have hl4:(o.code.length:Int)<=4000:=by omega
 have HCO:Hid (∀ W,Below w.heap.size w W->CodeAt W wb ob g cap o.code):=fun W hb=>h.on hb
 clear hO h
 obtain⟨op,xa,xb⟩:=x
 have hlab:op=12\/op=13->0<=xa/\xa.toNat<o.code.length:=hlab
 obtain⟨w0,hw0⟩:∃ w0,w0=w.alloc (.cells #[.int .i64 0,.int .i64 0,.int .i64 0] 68):=⟨_,rfl⟩
 obtain⟨w1,hw1⟩:∃ w1,w1=w0.alloc (.cells #[.int .i64 op,.int .i64 xa,.int .i64 xb] 68):=⟨_,rfl⟩
 have hs0:w0.heap.size=w.heap.size+1:=by rw[hw0];show (w.heap.push _).size=_;rw[Array.size_push]
 have hb0:Below w.heap.size w w0:=by rw[hw0];exact zb _ _
 have hb01:Below w0.heap.size w0 w1:=by rw[hw1];exact zb _ _
 have hb1:Below w.heap.size w w1:=hb0.trans (hb01.mono hb0.size)
 have r1:w1.heap[w.heap.size]?=some (.cells #[.int .i64 0,.int .i64 0,.int .i64 0] 68 (0,0)):=(hb01.block _ (by omega)).trans (by rw[hw0];exact zw w _)
 have b1:w1.heap[w.heap.size+1]?=some (.cells #[.int .i64 op,.int .i64 xa,.int .i64 xb] 68 (0,0)):=by rw[<-hs0,hw1];exact zw w0 _
 have HB1:=zh hb1
 have HR1:=zh r1
 have HX1:=zh b1
 have HW0:=zh hw0
 have HW1:=zh hw1
 obtain⟨t0,t1,t2,t3,t4⟩:=in3 b1
 obtain⟨t5,t7,t8,t9,t6⟩:=in3 r1
 have x0':=zv hb0 x0
 have x1':=zv hb0 x1
 have x2':=zv hb0 x2
 have k0':=zv hb0 k0
 have k6':=zv hb0 k6
 have hg':g<w0.heap.size:=Nat.lt_of_lt_of_le hg hb0.size
 have hw':wb<w0.heap.size:=Nat.lt_of_lt_of_le hw hb0.size
 have hob':ob<w0.heap.size:=Nat.lt_of_lt_of_le hob hb0.size
 clear hb0 hb01 hb1 r1 b1 hw0 hw1 x0 x1 x2 k0 k6
 by_cases o13:op=13
 ·subst o13
  obtain⟨l0,l1⟩:=hlab (Or.inr rfl)
  obtain⟨ka,rfl⟩:=Int.eq_ofNat_of_zero_le l0
  have l1:ka<o.code.length:=l1
  have HC:=zh (HON.out w1 HB1.out ka l1)
  have HS:Hid (Vm.strF o.code i ⟨13,(ka:Int),xb⟩=if Vm.onward o.code ka=i+1 then ⟨2,0,0⟩ else ⟨13,(Vm.onward o.code ka:Int),xb⟩):=rfl
  have HT:=HONL.out ka l1
  rw[HS.out]
  generalize Vm.onward o.code ka=m at *
  clear HS HON HONL HCA HCO hlab
  generalize o.code.length=ln at *
  by_cases hm:m=i+1
  ·subst hm
   rw[if_pos rfl]
   go_enter Tryz.func79,Tryz.ntmps79
   go_upto_region 1 with fail
   rw[<-HW0.out]
   go_upto_region 2 with fail
   rw[<-HW1.out]
   clear HW0 HW1 x0' x1' x2' k0' k6' hg' hw' hob'
   go_wp2_with fail
   refine HC.out.mono ?_
   rintro e w2 ⟨rfl,hb2⟩
   have HB2:=zh hb2
   have HX2:Hid (w2.heap[w.heap.size+1]?=_):=(hb2.block _ t0).trans HX1.out
   have HR2:Hid (w2.heap[w.heap.size]?=_):=(hb2.block _ t5).trans HR1.out
   obtain⟨s0,s1,s2,s3,s4⟩:=in3 HX2.out
   obtain⟨s5,s7,s8,s9,s6⟩:=in3 HR2.out
   clear hb2
   go_wp2_with fail
   refine(zX _ _).mono ?_
   rintro e w3 ⟨rfl,hb3⟩
   have hb3':Below w.heap.size w w3:=(HB1.out.trans (HB2.out.mono HB1.out.size)).trans (((Below.refl _ _).setCell (by show _<=w.heap.size+1;omega) _).trans (hb3.mono (by show _<=(w2.setCell _ _).heap.size;simp[World.setCell];omega)))
   have hr3:w3.heap[w.heap.size]?=_:=(hb3.block _ (by show _<(w2.setCell _ _).heap.size;simp[World.setCell];omega)).trans ((Below.heap_setCell _ _ _ _ (by simp)).trans HR2.out)
   have HB3:=zh hb3'
   have HR3:=zh hr3
   obtain⟨q5,q7,q8,q9,q6⟩:=in3 hr3
   clear hb3 hb3' hr3
   unfold iA
   go_wp2_with fail
   obtain⟨f1,f2⟩:=(yY HB3.out HR3.out (.int .i64 2) (.int .i64 0) (.int .i64 0)).out
   try simp only [Exit.inBlock,Exit.then]
   exact bodyPost_ret (v:=.agg #[.int .i64 2,.int .i64 0,.int .i64 0]) (by simp[results,Tryz.results79,go_sem,f2]) rfl ⟨rfl,f1⟩
  ·rw[if_neg hm]
   have hmi:((m:Int) == ((i:Int)+1))=false:=beq_false_of_ne (by omega)
   go_enter Tryz.func79,Tryz.ntmps79
   go_upto_region 1 with fail
   rw[<-HW0.out]
   go_upto_region 2 with fail
   rw[<-HW1.out]
   clear HW0 HW1 x0' x1' x2' k0' k6' hg' hw' hob'
   go_wp2_with fail
   refine HC.out.mono ?_
   rintro e w2 ⟨rfl,hb2⟩
   have HB2:=zh hb2
   have HX2:Hid (w2.heap[w.heap.size+1]?=_):=(hb2.block _ t0).trans HX1.out
   have HR2:Hid (w2.heap[w.heap.size]?=_):=(hb2.block _ t5).trans HR1.out
   obtain⟨s0,s1,s2,s3,s4⟩:=in3 HX2.out
   obtain⟨s5,s7,s8,s9,s6⟩:=in3 HR2.out
   clear hb2
   go_wp2_with fail
   obtain⟨f1,f2⟩:=(yY (w:=w) (wz:=w2.setCell ⟨w.heap.size+1,1,none⟩ (.int .i64 (m:Int))) ((HB1.out.trans (HB2.out.mono HB1.out.size)).setCell (by show _<=_+1;omega) _) ((Below.heap_setCell _ _ _ _ (by simp)).trans HR2.out) (.int .i64 13) (.int .i64 (m:Int)) (.int .i64 xb)).out
   try simp only [Exit.inBlock,Exit.then]
   exact bodyPost_ret (v:=.agg #[.int .i64 13,.int .i64 (m:Int),.int .i64 xb]) (by simp[results,Tryz.results79,go_sem,f2]) rfl ⟨rfl,f1⟩
 by_cases o1:op=1
 ·subst o1
  have HC:=zh (HON.out w1 HB1.out i hi)
  have HS:Hid (Vm.strF o.code i ⟨1,xa,xb⟩=if Vm.onward o.code i=i then ⟨1,xa,xb⟩ else if (o.code.getD (Vm.onward o.code i) Vm.in0).op=15\/(o.code.getD (Vm.onward o.code i) Vm.in0).op=17 then o.code.getD (Vm.onward o.code i) Vm.in0 else ⟨12,(Vm.onward o.code i:Int),0⟩):=rfl
  have HT:=HONL.out i hi
  rw[HS.out]
  generalize Vm.onward o.code i=m at *
  by_cases hm:m=i
  ·subst hm
   rw[if_pos rfl]
   clear HS HON HONL HCA HCO hlab
   generalize o.code.length=ln at *
   go_enter Tryz.func79,Tryz.ntmps79
   go_upto_region 1 with fail
   rw[<-HW0.out]
   go_upto_region 2 with fail
   rw[<-HW1.out]
   clear HW0 HW1 x0' x1' x2' k0' k6' hg' hw' hob'
   go_wp2_with fail
   refine HC.out.mono ?_
   rintro e w2 ⟨rfl,hb2⟩
   have HB2:=zh hb2
   have HX2:Hid (w2.heap[w.heap.size+1]?=_):=(hb2.block _ t0).trans HX1.out
   have HR2:Hid (w2.heap[w.heap.size]?=_):=(hb2.block _ t5).trans HR1.out
   obtain⟨s0,s1,s2,s3,s4⟩:=in3 HX2.out
   obtain⟨s5,s7,s8,s9,s6⟩:=in3 HR2.out
   clear hb2
   go_wp2_with fail
   obtain⟨f1,f2⟩:=(yY (w:=w) (wz:=w2) (HB1.out.trans (HB2.out.mono HB1.out.size)) HR2.out (.int .i64 1) (.int .i64 xa) (.int .i64 xb)).out
   try simp only [Exit.inBlock,Exit.then]
   exact bodyPost_ret (v:=.agg #[.int .i64 1,.int .i64 xa,.int .i64 xb]) (by simp[results,Tryz.results79,go_sem,f2]) rfl ⟨rfl,f1⟩
  ·rw[if_neg hm]
   have hmi:((m:Int) == (i:Int))=false:=beq_false_of_ne (by omega)
   obtain⟨y,hy⟩:∃ y,o.code[m]?=some y:=⟨_,List.getElem?_eq_getElem HT⟩
   have hyd:o.code.getD m Vm.in0=y:=by rw[List.getD_eq_getElem?_getD,hy];rfl
   rw[hyd]
   have HCY:Hid (∀ W,Below w.heap.size w W->W.cell? ⟨wb,0,none⟩=some (.pointer (some ⟨ob,0,none⟩))/\W.cell? ⟨ob,6,none⟩=some (.slice (some ⟨g,0,none⟩) o.code.length cap)/\W.cell? ⟨g,m * 3,none⟩=some (.int .i64 y.op)/\W.cell? ⟨g,m * 3+1,none⟩=some (.int .i64 y.a)/\W.cell? ⟨g,m * 3+2,none⟩=some (.int .i64 y.b)):=fun W hb=>⟨(HCO.out W hb).k0,(HCO.out W hb).k6,((HCO.out W hb).at' m y hy).1,((HCO.out W hb).at' m y hy).2.1,((HCO.out W hb).at' m y hy).2.2⟩
   obtain⟨yo,ya,yb⟩:=y
   have HEN:=zh (fun W=>jb ⟨yo,ya,yb⟩ (b:=(yo == 15 || yo == 17)) rfl W)
   have hmn:(m:Int)<o.code.length:=by omega
   have HJ:=zh (fun W=>kY (n:=(m:Int)) (by unfold I64;omega) W)
   unfold iA at HEN HJ
   clear HS HON HONL HCA HCO hlab hy hyd HT
   generalize o.code.length=ln at *
   by_cases hD:yo=15\/yo=17
   ·rw[if_pos hD]
    have hd:(yo == 15 || yo == 17)=true:=by simp[hD]
    rw[hd]at HEN
    clear hd hD
    go_enter Tryz.func79,Tryz.ntmps79
    go_upto_region 1 with fail
    rw[<-HW0.out]
    go_upto_region 2 with fail
    rw[<-HW1.out]
    clear HW0 HW1 x0' x1' x2' k0' k6' hg' hw' hob'
    go_wp2_with fail
    refine HC.out.mono ?_
    rintro e w2 ⟨rfl,hb2⟩
    have hbb:Below w.heap.size w w2:=HB1.out.trans (hb2.mono HB1.out.size)
    have HB2:=zh hbb
    have HR2:Hid (w2.heap[w.heap.size]?=_):=(hb2.block _ t5).trans HR1.out
    obtain⟨z0,z6,y0,y1,y2⟩:=HCY.out w2 hbb
    obtain⟨s5,s7,s8,s9,s6⟩:=in3 HR2.out
    have z1:=zi z0
    have z2:=zi z6
    have z3:=zi y0
    obtain⟨w3,hw3⟩:∃ w3,w3=w2.alloc (.cells #[.int .i64 yo,.int .i64 ya,.int .i64 yb] 68):=⟨_,rfl⟩
    have hb23:Below w2.heap.size w2 w3:=by rw[hw3];exact zb _ _
    have HB3:Hid (Below w.heap.size w w3):=hbb.trans (hb23.mono hbb.size)
    have HR3:Hid (w3.heap[w.heap.size]?=_):=(hb23.block _ s5).trans HR2.out
    have HY3:Hid (w3.heap[w2.heap.size]?=some (.cells #[.int .i64 yo,.int .i64 ya,.int .i64 yb] 68 (0,0))):=by show _=_;rw[hw3];exact zw w2 _
    obtain⟨p0,p1,p2,p3,p4⟩:=in3 HY3.out
    clear hb2 hbb HCY hb23
    go_upto_region 13 with fail
    rw[<-hw3]
    clear hw3
    go_wp2_with fail
    refine(HEN.out _).mono ?_
    rintro e w4 ⟨rfl,hb4⟩
    have HB4:Hid (Below w.heap.size w w4):=HB3.out.trans (hb4.mono HB3.out.size)
    have HR4:Hid (w4.heap[w.heap.size]?=_):=(hb4.block _ (Nat.lt_of_lt_of_le s5 (Nat.le_of_lt p0))).trans HR3.out
    have HY4:Hid (w4.heap[w2.heap.size]?=_):=(hb4.block _ p0).trans HY3.out
    obtain⟨v5,v7,v8,v9,v6⟩:=in3 HR4.out
    obtain⟨u0,u1,u2,u3,u4⟩:=in3 HY4.out
    clear hb4
    go_wp2_with fail
    obtain⟨f1,f2⟩:=(yY (w:=w) (wz:=w4) HB4.out HR4.out (.int .i64 yo) (.int .i64 ya) (.int .i64 yb)).out
    try simp only [Exit.inBlock,Exit.then]
    exact bodyPost_ret (v:=.agg #[.int .i64 yo,.int .i64 ya,.int .i64 yb]) (by simp[results,Tryz.results79,go_sem,f2]) rfl ⟨rfl,f1⟩
   ·rw[if_neg hD]
    have hd:(yo == 15 || yo == 17)=false:=by
     rw[Bool.or_eq_false_iff]
     exact⟨beq_false_of_ne fun q=>hD (Or.inl q),beq_false_of_ne fun q=>hD (Or.inr q)⟩
    rw[hd]at HEN
    clear hd hD
    go_enter Tryz.func79,Tryz.ntmps79
    go_upto_region 1 with fail
    rw[<-HW0.out]
    go_upto_region 2 with fail
    rw[<-HW1.out]
    clear HW0 HW1 x0' x1' x2' k0' k6' hg' hw' hob'
    go_wp2_with fail
    refine HC.out.mono ?_
    rintro e w2 ⟨rfl,hb2⟩
    have hbb:Below w.heap.size w w2:=HB1.out.trans (hb2.mono HB1.out.size)
    have HB2:=zh hbb
    have HR2:Hid (w2.heap[w.heap.size]?=_):=(hb2.block _ t5).trans HR1.out
    obtain⟨z0,z6,y0,y1,y2⟩:=HCY.out w2 hbb
    obtain⟨s5,s7,s8,s9,s6⟩:=in3 HR2.out
    have z1:=zi z0
    have z2:=zi z6
    have z3:=zi y0
    obtain⟨w3,hw3⟩:∃ w3,w3=w2.alloc (.cells #[.int .i64 yo,.int .i64 ya,.int .i64 yb] 68):=⟨_,rfl⟩
    have hb23:Below w2.heap.size w2 w3:=by rw[hw3];exact zb _ _
    have HB3:Hid (Below w.heap.size w w3):=hbb.trans (hb23.mono hbb.size)
    have HR3:Hid (w3.heap[w.heap.size]?=_):=(hb23.block _ s5).trans HR2.out
    have HY3:Hid (w3.heap[w2.heap.size]?=some (.cells #[.int .i64 yo,.int .i64 ya,.int .i64 yb] 68 (0,0))):=by show _=_;rw[hw3];exact zw w2 _
    obtain⟨p0,p1,p2,p3,p4⟩:=in3 HY3.out
    clear hb2 hbb HCY hb23
    go_upto_region 13 with fail
    rw[<-hw3]
    clear hw3
    go_wp2_with fail
    refine(HEN.out _).mono ?_
    rintro e w4 ⟨rfl,hb4⟩
    have HB4:Hid (Below w.heap.size w w4):=HB3.out.trans (hb4.mono HB3.out.size)
    have HR4:Hid (w4.heap[w.heap.size]?=_):=(hb4.block _ (Nat.lt_of_lt_of_le s5 (Nat.le_of_lt p0))).trans HR3.out
    have HY4:Hid (w4.heap[w2.heap.size]?=_):=(hb4.block _ p0).trans HY3.out
    obtain⟨v5,v7,v8,v9,v6⟩:=in3 HR4.out
    obtain⟨u0,u1,u2,u3,u4⟩:=in3 HY4.out
    clear hb4
    go_wp2_with fail
    refine(HJ.out _).mono ?_
    rintro e w5 ⟨rfl,hb5⟩
    have HB5:Hid (Below w.heap.size w w5):=HB4.out.trans (hb5.mono HB4.out.size)
    have HR5:Hid (w5.heap[w.heap.size]?=_):=(hb5.block _ v5).trans HR4.out
    obtain⟨o5,o7,o8,o9,o6⟩:=in3 HR5.out
    clear hb5
    go_wp2_with fail
    obtain⟨f1,f2⟩:=(yY (w:=w) (wz:=w5) HB5.out HR5.out (.int .i64 12) (.int .i64 (m:Int)) (.int .i64 0)).out
    try simp only [Exit.inBlock,Exit.then]
    exact bodyPost_ret (v:=.agg #[.int .i64 12,.int .i64 (m:Int),.int .i64 0]) (by simp[results,Tryz.results79,go_sem,f2]) rfl ⟨rfl,f1⟩
 by_cases o12:op=12
 ·subst o12
  have HC:=zh (HON.out w1 HB1.out i hi)
  have HS:Hid (Vm.strF o.code i ⟨12,xa,xb⟩=if Vm.onward o.code i=i then ⟨12,xa,xb⟩ else if (o.code.getD (Vm.onward o.code i) Vm.in0).op=15\/(o.code.getD (Vm.onward o.code i) Vm.in0).op=17 then o.code.getD (Vm.onward o.code i) Vm.in0 else ⟨12,(Vm.onward o.code i:Int),0⟩):=rfl
  have HT:=HONL.out i hi
  rw[HS.out]
  generalize Vm.onward o.code i=m at *
  by_cases hm:m=i
  ·subst hm
   rw[if_pos rfl]
   clear HS HON HONL HCA HCO hlab
   generalize o.code.length=ln at *
   go_enter Tryz.func79,Tryz.ntmps79
   go_upto_region 1 with fail
   rw[<-HW0.out]
   go_upto_region 2 with fail
   rw[<-HW1.out]
   clear HW0 HW1 x0' x1' x2' k0' k6' hg' hw' hob'
   go_wp2_with fail
   refine HC.out.mono ?_
   rintro e w2 ⟨rfl,hb2⟩
   have HB2:=zh hb2
   have HX2:Hid (w2.heap[w.heap.size+1]?=_):=(hb2.block _ t0).trans HX1.out
   have HR2:Hid (w2.heap[w.heap.size]?=_):=(hb2.block _ t5).trans HR1.out
   obtain⟨s0,s1,s2,s3,s4⟩:=in3 HX2.out
   obtain⟨s5,s7,s8,s9,s6⟩:=in3 HR2.out
   clear hb2
   go_wp2_with fail
   obtain⟨f1,f2⟩:=(yY (w:=w) (wz:=w2) (HB1.out.trans (HB2.out.mono HB1.out.size)) HR2.out (.int .i64 12) (.int .i64 xa) (.int .i64 xb)).out
   try simp only [Exit.inBlock,Exit.then]
   exact bodyPost_ret (v:=.agg #[.int .i64 12,.int .i64 xa,.int .i64 xb]) (by simp[results,Tryz.results79,go_sem,f2]) rfl ⟨rfl,f1⟩
  ·rw[if_neg hm]
   have hmi:((m:Int) == (i:Int))=false:=beq_false_of_ne (by omega)
   obtain⟨y,hy⟩:∃ y,o.code[m]?=some y:=⟨_,List.getElem?_eq_getElem HT⟩
   have hyd:o.code.getD m Vm.in0=y:=by rw[List.getD_eq_getElem?_getD,hy];rfl
   rw[hyd]
   have HCY:Hid (∀ W,Below w.heap.size w W->W.cell? ⟨wb,0,none⟩=some (.pointer (some ⟨ob,0,none⟩))/\W.cell? ⟨ob,6,none⟩=some (.slice (some ⟨g,0,none⟩) o.code.length cap)/\W.cell? ⟨g,m * 3,none⟩=some (.int .i64 y.op)/\W.cell? ⟨g,m * 3+1,none⟩=some (.int .i64 y.a)/\W.cell? ⟨g,m * 3+2,none⟩=some (.int .i64 y.b)):=fun W hb=>⟨(HCO.out W hb).k0,(HCO.out W hb).k6,((HCO.out W hb).at' m y hy).1,((HCO.out W hb).at' m y hy).2.1,((HCO.out W hb).at' m y hy).2.2⟩
   obtain⟨yo,ya,yb⟩:=y
   have HEN:=zh (fun W=>jb ⟨yo,ya,yb⟩ (b:=(yo == 15 || yo == 17)) rfl W)
   have hmn:(m:Int)<o.code.length:=by omega
   have HJ:=zh (fun W=>kY (n:=(m:Int)) (by unfold I64;omega) W)
   unfold iA at HEN HJ
   clear HS HON HONL HCA HCO hlab hy hyd HT
   generalize o.code.length=ln at *
   by_cases hD:yo=15\/yo=17
   ·rw[if_pos hD]
    have hd:(yo == 15 || yo == 17)=true:=by simp[hD]
    rw[hd]at HEN
    clear hd hD
    go_enter Tryz.func79,Tryz.ntmps79
    go_upto_region 1 with fail
    rw[<-HW0.out]
    go_upto_region 2 with fail
    rw[<-HW1.out]
    clear HW0 HW1 x0' x1' x2' k0' k6' hg' hw' hob'
    go_wp2_with fail
    refine HC.out.mono ?_
    rintro e w2 ⟨rfl,hb2⟩
    have hbb:Below w.heap.size w w2:=HB1.out.trans (hb2.mono HB1.out.size)
    have HB2:=zh hbb
    have HR2:Hid (w2.heap[w.heap.size]?=_):=(hb2.block _ t5).trans HR1.out
    obtain⟨z0,z6,y0,y1,y2⟩:=HCY.out w2 hbb
    obtain⟨s5,s7,s8,s9,s6⟩:=in3 HR2.out
    have z1:=zi z0
    have z2:=zi z6
    have z3:=zi y0
    obtain⟨w3,hw3⟩:∃ w3,w3=w2.alloc (.cells #[.int .i64 yo,.int .i64 ya,.int .i64 yb] 68):=⟨_,rfl⟩
    have hb23:Below w2.heap.size w2 w3:=by rw[hw3];exact zb _ _
    have HB3:Hid (Below w.heap.size w w3):=hbb.trans (hb23.mono hbb.size)
    have HR3:Hid (w3.heap[w.heap.size]?=_):=(hb23.block _ s5).trans HR2.out
    have HY3:Hid (w3.heap[w2.heap.size]?=some (.cells #[.int .i64 yo,.int .i64 ya,.int .i64 yb] 68 (0,0))):=by show _=_;rw[hw3];exact zw w2 _
    obtain⟨p0,p1,p2,p3,p4⟩:=in3 HY3.out
    clear hb2 hbb HCY hb23
    go_upto_region 13 with fail
    rw[<-hw3]
    clear hw3
    go_wp2_with fail
    refine(HEN.out _).mono ?_
    rintro e w4 ⟨rfl,hb4⟩
    have HB4:Hid (Below w.heap.size w w4):=HB3.out.trans (hb4.mono HB3.out.size)
    have HR4:Hid (w4.heap[w.heap.size]?=_):=(hb4.block _ (Nat.lt_of_lt_of_le s5 (Nat.le_of_lt p0))).trans HR3.out
    have HY4:Hid (w4.heap[w2.heap.size]?=_):=(hb4.block _ p0).trans HY3.out
    obtain⟨v5,v7,v8,v9,v6⟩:=in3 HR4.out
    obtain⟨u0,u1,u2,u3,u4⟩:=in3 HY4.out
    clear hb4
    go_wp2_with fail
    obtain⟨f1,f2⟩:=(yY (w:=w) (wz:=w4) HB4.out HR4.out (.int .i64 yo) (.int .i64 ya) (.int .i64 yb)).out
    try simp only [Exit.inBlock,Exit.then]
    exact bodyPost_ret (v:=.agg #[.int .i64 yo,.int .i64 ya,.int .i64 yb]) (by simp[results,Tryz.results79,go_sem,f2]) rfl ⟨rfl,f1⟩
   ·rw[if_neg hD]
    have hd:(yo == 15 || yo == 17)=false:=by
     rw[Bool.or_eq_false_iff]
     exact⟨beq_false_of_ne fun q=>hD (Or.inl q),beq_false_of_ne fun q=>hD (Or.inr q)⟩
    rw[hd]at HEN
    clear hd hD
    go_enter Tryz.func79,Tryz.ntmps79
    go_upto_region 1 with fail
    rw[<-HW0.out]
    go_upto_region 2 with fail
    rw[<-HW1.out]
    clear HW0 HW1 x0' x1' x2' k0' k6' hg' hw' hob'
    go_wp2_with fail
    refine HC.out.mono ?_
    rintro e w2 ⟨rfl,hb2⟩
    have hbb:Below w.heap.size w w2:=HB1.out.trans (hb2.mono HB1.out.size)
    have HB2:=zh hbb
    have HR2:Hid (w2.heap[w.heap.size]?=_):=(hb2.block _ t5).trans HR1.out
    obtain⟨z0,z6,y0,y1,y2⟩:=HCY.out w2 hbb
    obtain⟨s5,s7,s8,s9,s6⟩:=in3 HR2.out
    have z1:=zi z0
    have z2:=zi z6
    have z3:=zi y0
    obtain⟨w3,hw3⟩:∃ w3,w3=w2.alloc (.cells #[.int .i64 yo,.int .i64 ya,.int .i64 yb] 68):=⟨_,rfl⟩
    have hb23:Below w2.heap.size w2 w3:=by rw[hw3];exact zb _ _
    have HB3:Hid (Below w.heap.size w w3):=hbb.trans (hb23.mono hbb.size)
    have HR3:Hid (w3.heap[w.heap.size]?=_):=(hb23.block _ s5).trans HR2.out
    have HY3:Hid (w3.heap[w2.heap.size]?=some (.cells #[.int .i64 yo,.int .i64 ya,.int .i64 yb] 68 (0,0))):=by show _=_;rw[hw3];exact zw w2 _
    obtain⟨p0,p1,p2,p3,p4⟩:=in3 HY3.out
    clear hb2 hbb HCY hb23
    go_upto_region 13 with fail
    rw[<-hw3]
    clear hw3
    go_wp2_with fail
    refine(HEN.out _).mono ?_
    rintro e w4 ⟨rfl,hb4⟩
    have HB4:Hid (Below w.heap.size w w4):=HB3.out.trans (hb4.mono HB3.out.size)
    have HR4:Hid (w4.heap[w.heap.size]?=_):=(hb4.block _ (Nat.lt_of_lt_of_le s5 (Nat.le_of_lt p0))).trans HR3.out
    have HY4:Hid (w4.heap[w2.heap.size]?=_):=(hb4.block _ p0).trans HY3.out
    obtain⟨v5,v7,v8,v9,v6⟩:=in3 HR4.out
    obtain⟨u0,u1,u2,u3,u4⟩:=in3 HY4.out
    clear hb4
    go_wp2_with fail
    refine(HJ.out _).mono ?_
    rintro e w5 ⟨rfl,hb5⟩
    have HB5:Hid (Below w.heap.size w w5):=HB4.out.trans (hb5.mono HB4.out.size)
    have HR5:Hid (w5.heap[w.heap.size]?=_):=(hb5.block _ v5).trans HR4.out
    obtain⟨o5,o7,o8,o9,o6⟩:=in3 HR5.out
    clear hb5
    go_wp2_with fail
    obtain⟨f1,f2⟩:=(yY (w:=w) (wz:=w5) HB5.out HR5.out (.int .i64 12) (.int .i64 (m:Int)) (.int .i64 0)).out
    try simp only [Exit.inBlock,Exit.then]
    exact bodyPost_ret (v:=.agg #[.int .i64 12,.int .i64 (m:Int),.int .i64 0]) (by simp[results,Tryz.results79,go_sem,f2]) rfl ⟨rfl,f1⟩
 have k13:(op == 13)=false:=beq_false_of_ne o13
 have k1:(op == 1)=false:=beq_false_of_ne o1
 have k12:(op == 12)=false:=beq_false_of_ne o12
 have HS:Hid (Vm.strF o.code i ⟨op,xa,xb⟩=⟨op,xa,xb⟩):=by
  show _=_
  unfold Vm.strF
  rw[if_neg o13,if_neg (fun q=>q.elim o1 o12)]
 rw[HS.out]
 clear HS HON HONL HCA HCO hlab
 generalize o.code.length=ln at *
 go_enter Tryz.func79,Tryz.ntmps79
 go_upto_region 1 with fail
 rw[<-HW0.out]
 go_upto_region 2 with fail
 rw[<-HW1.out]
 clear HW0 HW1 x0' x1' x2' k0' k6' hg' hw' hob'
 go_wp2_with fail
 all_goals
  obtain⟨f1,f2⟩:=(yY (w:=w) (wz:=w1) HB1.out HR1.out (.int .i64 op) (.int .i64 xa) (.int .i64 xb)).out
  try simp only [Exit.inBlock,Exit.then]
  exact bodyPost_ret (v:=.agg #[.int .i64 op,.int .i64 xa,.int .i64 xb]) (by simp[results,Tryz.results79,go_sem,f2]) rfl ⟨rfl,f1⟩
structure Kpt (w w':World) (ob:Nat) (pv cv cv':Value):Prop where
 os:w'.os=w.os
 tape:w'.tape=w.tape
 output:w'.output=w.output
 size:w.heap.size<=w'.heap.size
 block:∀ b,b<w.heap.size->b≠ob->pv.ownBlock≠some b->cv.ownBlock≠some b->w'.heap[b]?=w.heap[b]?
 lies:∀ g,cv'.ownBlock=some g->cv.ownBlock=some g\/w.heap.size<=g
theorem Kpt.refl (w:World) (ob:Nat) (pv cv:Value):Kpt w w ob pv cv cv:=⟨rfl,rfl,rfl,Nat.le_refl _,fun _ _ _ _ _=>rfl,fun _ h=>Or.inl h⟩
theorem Kpt.trans {w1 w2 w3:World}{ob:Nat}{pv c1 c2 c3:Value}(h:Kpt w1 w2 ob pv c1 c2) (k:Kpt w2 w3 ob pv c2 c3):Kpt w1 w3 ob pv c1 c3:=by
 refine⟨k.os.trans h.os,k.tape.trans h.tape,k.output.trans h.output,Nat.le_trans h.size k.size,fun b hb h1 h2 h3=>?_,fun g hg=>?_⟩
 ·refine(k.block b (Nat.lt_of_lt_of_le hb h.size) h1 h2 fun q=>?_).trans (h.block b hb h1 h2 h3)
  rcases h.lies b q with q|q
  ·exact h3 q
  ·omega
 ·rcases k.lies g hg with q|q
  ·exact h.lies g q
  ·exact Or.inr (Nat.le_trans h.size q)
theorem Kpt.on {w1 w2 w3:World}{ob:Nat}{pv c1 c2:Value}(h:Kpt w1 w2 ob pv c1 c2) (k:Below w2.heap.size w2 w3):Kpt w1 w3 ob pv c1 c2:=h.trans ⟨k.os,k.tape,k.output,k.size,fun b hb _ _ _=>k.block b hb,fun _ h=>Or.inl h⟩
theorem Kpt.set {w1 w2:World}{ob:Nat}{pv c1 c2:Value}(h:Kpt w1 w2 ob pv c1 c2) {b:Nat}(hb:b=ob\/pv.ownBlock=some b\/c2.ownBlock=some b) (j:Nat) (u:Value):Kpt w1 (w2.setCell ⟨b,j,none⟩ u) ob pv c1 c2:=h.trans ⟨rfl,rfl,rfl,by simp[World.setCell],fun k hk h1 h2 h3=>by
 refine Below.heap_setCell _ _ _ _ (by
  intro q
  have q:k=b:=q
  rcases hb with e|e|e
  ·exact h1 (q.trans e)
  ·exact h2 (q ▸ e)
  ·exact h3 (q ▸ e)),fun _ h=>Or.inl h⟩
theorem Kpt.below {w w':World}{ob n:Nat}{pv cv cv':Value}(h:Kpt w w' ob pv cv cv') (hn:n<=w.heap.size) (h1:n<=ob) (h2:∀ g,pv.ownBlock=some g->n<=g) (h3:∀ g,cv.ownBlock=some g->n<=g):Below n w w':=⟨h.os,h.tape,h.output,h.size,fun b hb=>h.block b (by omega) (by omega) (fun q=>by have:=h2 b q;omega) fun q=>by have:=h3 b q;omega⟩
def set3 (w:World) (g k:Nat) (y:In):World:=((w.setCell ⟨g,k,none⟩ (.int .i64 y.op)).setCell ⟨g,k+1,none⟩ (.int .i64 y.a)).setCell ⟨g,k+2,none⟩ (.int .i64 y.b)
theorem Wo.put {w:World}{n wb ob g cap:Nat}{o:O}{sv uv vv nv pv:Value}(h:Wo w n wb ob o sv uv vv nv pv (.slice (some ⟨g,0,none⟩) o.code.length cap)) {i:Nat}(hi:i<o.code.length) (y:In):Wo (set3 w g (i * 3) y) n wb ob (Vm.setC o i y) sv uv vv nv pv (.slice (some ⟨g,0,none⟩) o.code.length cap)/\Kpt w (set3 w g (i * 3) y) ob pv (.slice (some ⟨g,0,none⟩) o.code.length cap) (.slice (some ⟨g,0,none⟩) o.code.length cap):=by
 have hg:(Value.slice (some ⟨g,0,none⟩) o.code.length cap).ownBlock=some g:=rfl
 have e:∀ b,b≠g->(set3 w g (i * 3) y).heap[b]?=w.heap[b]?:=fun b hb=>(Below.heap_setCell _ _ _ _ (by exact hb)).trans ((Below.heap_setCell _ _ _ _ (by exact hb)).trans (Below.heap_setCell _ _ _ _ (by exact hb)))
 have n1:wb≠g:=fun q=>zJ h.cr h.wk (by decide) (by rw[q];exact hg)
 have n2:ob≠g:=fun q=>zJ h.cr h.ok (by decide) (by rw[q];exact hg)
 have n3:pv.ownBlock≠some g:=yF h.cr h.pr (by decide) hg
 refine⟨⟨h.nw,h.no,(e _ n1).trans h.wk,(e _ n2).trans h.ok,z7 h.pr fun b _ _ hb=>e b fun q=>n3 (q ▸ hb),?_⟩,((Kpt.refl w ob pv _).set (Or.inr (Or.inr hg)) _ _ |>.set (Or.inr (Or.inr hg)) _ _).set (Or.inr (Or.inr hg)) _ _⟩
 have:=k9 (j:=i * 3+2) (u:=.int .i64 y.b) (k9 (j:=i * 3+1) (u:=.int .i64 y.a) (k9 (j:=i * 3) (u:=.int .i64 y.op) h.cr))
 rw[<-vD _ _ _ hi]at this
 rw[show (Vm.setC o i y).code.length=o.code.length from Vm.setC_len o i y]
 exact this
def entN (f:Nat->Nat) (k:Nat) (o:O):O:={ o with procs:=(o.procs.take k).map (fun e=>{ e with at':=(f e.at'.toNat:Int) })++o.procs.drop k }
theorem vy (f:Nat->Nat) (o:O):entN f 0 o=o:=by cases o;simp[entN]
theorem entN_all (f:Nat->Nat) (o:O):entN f o.procs.length o=Vm.entO o f:=by unfold entN Vm.entO;simp
theorem yL (f:Nat->Nat) (k:Nat) (o:O):(entN f k o).procs.length=o.procs.length:=by
 unfold entN
 simp
 omega
theorem uh {f:Nat->Nat}{k:Nat}{o:O}(hk:k<o.procs.length):(entN f k o).procs[k]?=o.procs[k]?:=by
 unfold entN
 show ((o.procs.take k).map _++o.procs.drop k)[k]?=_
 rw[List.getElem?_append_right (by simp;omega)]
 simp[Nat.min_eq_left (Nat.le_of_lt hk)]
theorem entN_next {f:Nat->Nat}{k:Nat}{o:O}{e:Ob.En}(he:o.procs[k]?=some e):(entN f (k+1) o).procs=(entN f k o).procs.set k { e with at':=(f e.at'.toNat:Int) }:=by
 have hk:=(List.getElem?_eq_some_iff.1 he).1
 have hk':=(List.getElem?_eq_some_iff.1 he).2
 unfold entN
 show (o.procs.take (k+1)).map _++o.procs.drop (k+1)=((o.procs.take k).map _++o.procs.drop k).set k _
 rw[List.set_append_right _ _ (by simp;omega),List.take_succ_eq_append_getElem hk,List.drop_eq_getElem_cons hk,hk']
 simp[Nat.min_eq_left (Nat.le_of_lt hk)]
theorem um (l:List Ob.En) (i:Nat) (e:Ob.En) (m:Int) (h:l[i]?=some e):cellsOf enC (l.set i { e with at':=m })=(cellsOf enC l).set (i * 3) (.int .i64 m):=by
 induction l generalizing i with
 | nil=>simp at h
 | cons y r ih =>
  cases i with
  | zero =>
   simp at h
   subst h
   rfl
  | succ i =>
   have h:r[i]?=some e:=by simpa using h
   show enC y++cellsOf enC (r.set i _)=_
   rw[ih i h,show (i+1) * 3=i * 3+3 by omega]
   rfl
theorem cells_en {l:List Ob.En}{i:Nat}{x:Ob.En}(h:l[i]?=some x):(cellsOf enC l)[i * 3]?=some (.int .i64 x.at')/\(cellsOf enC l)[i * 3+1]?=some (.int .i64 x.args)/\(cellsOf enC l)[i * 3+2]?=some (.int .i64 x.locals):=by
 induction l generalizing i with
 | nil=>simp at h
 | cons y r ih =>
  cases i with
  | zero =>
   simp at h
   subst h
   exact⟨rfl,rfl,rfl⟩
  | succ i =>
   have h:r[i]?=some x:=by simpa using h
   obtain⟨a,b,c⟩:=ih h
   have e0:(i+1) * 3=i * 3+3:=by omega
   have e1:(i+1) * 3+1=i * 3+1+3:=by omega
   have e2:(i+1) * 3+2=i * 3+2+3:=by omega
   rw[e2,e1,e0]
   exact⟨a,b,c⟩
theorem Wo.ent {w:World}{n wb ob g cap:Nat}{o:O}{sv uv vv nv cv:Value}(h:Wo w n wb ob o sv uv vv nv (.slice (some ⟨g,0,none⟩) o.procs.length cap) cv) {i:Nat}{e:Ob.En}(hi:o.procs[i]?=some e) (m:Int):Wo (w.setCell ⟨g,i * 3,none⟩ (.int .i64 m)) n wb ob { o with procs:=o.procs.set i { e with at':=m } } sv uv vv nv (.slice (some ⟨g,0,none⟩) o.procs.length cap) cv/\Kpt w (w.setCell ⟨g,i * 3,none⟩ (.int .i64 m)) ob (.slice (some ⟨g,0,none⟩) o.procs.length cap) cv cv:=by
 have hg:(Value.slice (some ⟨g,0,none⟩) o.procs.length cap).ownBlock=some g:=rfl
 have k:∀ b,b≠g->(w.setCell ⟨g,i * 3,none⟩ (.int .i64 m)).heap[b]?=w.heap[b]?:=fun b hb=>Below.heap_setCell _ _ _ _ (by exact hb)
 have n1:wb≠g:=fun q=>zJ h.pr h.wk (by decide) (by rw[q];exact hg)
 have n2:ob≠g:=fun q=>zJ h.pr h.ok (by decide) (by rw[q];exact hg)
 have n3:cv.ownBlock≠some g:=yF h.pr h.cr (by decide) hg
 refine⟨⟨h.nw,h.no,(k _ n1).trans h.wk,(k _ n2).trans ?_,?_,z7 h.cr fun b _ _ hb=>k b fun q=>n3 (q ▸ hb)⟩,(Kpt.refl w ob _ cv).set (Or.inr (Or.inl hg)) _ _⟩
 ·exact h.ok
 ·have:=k9 (j:=i * 3) (u:=.int .i64 m) h.pr
  rw[<-um _ _ _ _ hi]at this
  rw[show ({ o with procs:=o.procs.set i { e with at':=m } }:O).procs.length=o.procs.length from List.length_set]
  exact this
theorem xE {w:World}{base e size n:Nat}{v:Value}{xs:List Value}(h:w.ownsRow base e size v n xs):n<=maxLen:=by
 rcases h.2 with⟨_,q⟩|⟨g,cap,cur,e1,q1,q2,q3,q4,q5,q6⟩
 ·omega
 ·omega
structure WK (w w':World) (n wb ob:Nat) (p:O) (sv uv vv nv pv cv cv':Value):Prop where
 wo:Wo w' n wb ob p sv uv vv nv pv cv'
 kp:Kpt w w' ob pv cv cv'
def WKP (w:World) (n wb ob:Nat) (p:O) (sv uv vv nv pv cv:Value) (e:Ending) (w':World):Prop:=e=.returned (.tuple #[])/\∃ cv',WK w w' n wb ob p sv uv vv nv pv cv cv'
theorem WK.put {w w1 w2:World}{n wb ob g cap:Nat}{o:O}{sv uv vv nv pv cv:Value}(h:WK w w1 n wb ob o sv uv vv nv pv cv (.slice (some ⟨g,0,none⟩) o.code.length cap)) (k:Below w1.heap.size w1 w2) {i:Nat}(hi:i<o.code.length) (y:In):WK w (set3 w2 g (i * 3) y) n wb ob (Vm.setC o i y) sv uv vv nv pv cv (.slice (some ⟨g,0,none⟩) o.code.length cap) :=
 ⟨((h.wo.on k).put hi y).1,(h.kp.on k).trans ((h.wo.on k).put hi y).2⟩
theorem WK.on {w w1 w2:World}{n wb ob:Nat}{o:O}{sv uv vv nv pv cv cv':Value}(h:WK w w1 n wb ob o sv uv vv nv pv cv cv') (k:Below w1.heap.size w1 w2):WK w w2 n wb ob o sv uv vv nv pv cv cv':=⟨h.wo.on k,h.kp.on k⟩
theorem Wo.frz {w:World}{n wb ob g cap:Nat}{o:O}{sv uv vv nv pv:Value}(h:Wo w n wb ob o sv uv vv nv pv (.slice (some ⟨g,0,none⟩) o.code.length cap)):∀ j,w.frozen? ⟨g,j,none⟩=false:=by
 rcases h.cr.2 with⟨q,_⟩|⟨g',cap',cur,e1,q1,q2,_⟩
 ·cases q
 ·cases e1
  exact fun j=>zr q2
theorem Wo.frzp {w:World}{n wb ob g cap:Nat}{o:O}{sv uv vv nv cv:Value}(h:Wo w n wb ob o sv uv vv nv (.slice (some ⟨g,0,none⟩) o.procs.length cap) cv):∀ j,w.frozen? ⟨g,j,none⟩=false:=by
 rcases h.pr.2 with⟨q,_⟩|⟨g',cap',cur,e1,q1,q2,_⟩
 ·cases q
 ·cases e1
  exact fun j=>zr q2
structure Rw (W:World) (wb ob g cap ln i:Nat) (x:In):Prop where
 k0:W.cell? ⟨wb,0,none⟩=some (.pointer (some ⟨ob,0,none⟩))
 k6:W.cell? ⟨ob,6,none⟩=some (.slice (some ⟨g,0,none⟩) ln cap)
 c0:W.cell? ⟨g,i * 3,none⟩=some (.int .i64 x.op)
 c1:W.cell? ⟨g,i * 3+1,none⟩=some (.int .i64 x.a)
 c2:W.cell? ⟨g,i * 3+2,none⟩=some (.int .i64 x.b)
 f:∀ j,W.frozen? ⟨g,j,none⟩=false
 lw:wb<W.heap.size
 lo:ob<W.heap.size
 lg:g<W.heap.size
theorem Wo.rw {w W:World}{n wb ob g cap:Nat}{o:O}{sv uv vv nv pv:Value}(h:Wo w n wb ob o sv uv vv nv pv (.slice (some ⟨g,0,none⟩) o.code.length cap)) (k:Below w.heap.size w W) {i:Nat}{x:In}(hx:o.code[i]?=some x):Rw W wb ob g cap o.code.length i x:=by
 have hi:=(List.getElem?_eq_some_iff.1 hx).1
 have h:=h.on k
 obtain⟨g',cap',e,-,hc⟩:=h.code (by omega)
 cases e
 obtain⟨a,b,c⟩:=hc.at' i x hx
 exact⟨hc.k0,hc.k6,a,b,c,h.frz,zi hc.k0,zi hc.k6,hc.lg⟩
structure Pw (W:World) (wb ob g cap ln i:Nat) (x:Ob.En):Prop where
 k0:W.cell? ⟨wb,0,none⟩=some (.pointer (some ⟨ob,0,none⟩))
 k4:W.cell? ⟨ob,4,none⟩=some (.slice (some ⟨g,0,none⟩) ln cap)
 c0:W.cell? ⟨g,i * 3,none⟩=some (.int .i64 x.at')
 c1:W.cell? ⟨g,i * 3+1,none⟩=some (.int .i64 x.args)
 c2:W.cell? ⟨g,i * 3+2,none⟩=some (.int .i64 x.locals)
 f:∀ j,W.frozen? ⟨g,j,none⟩=false
 lw:wb<W.heap.size
 lo:ob<W.heap.size
 lg:g<W.heap.size
theorem Wo.pw {w W:World}{n wb ob g cap:Nat}{o:O}{sv uv vv nv cv:Value}(h:Wo w n wb ob o sv uv vv nv (.slice (some ⟨g,0,none⟩) o.procs.length cap) cv) (k:Below w.heap.size w W) {i:Nat}{x:Ob.En}(hx:o.procs[i]?=some x):Pw W wb ob g cap o.procs.length i x:=by
 have hi:=(List.getElem?_eq_some_iff.1 hx).1
 have h:=h.on k
 obtain⟨g',cap',cur,e,-,h2,h3,h4⟩:=yQ h.pr (by omega)
 cases e
 obtain⟨a,b,c⟩:=cells_en hx
 exact⟨(zc h.wk).trans rfl,(zc h.ok).trans rfl,(h4 _ (by omega)).trans a,(h4 _ (by omega)).trans b,(h4 _ (by omega)).trans c,h.frzp,zk h.wk,zk h.ok,zk h2⟩
theorem WK.ent {w w1 w2:World}{n wb ob g cap:Nat}{o:O}{f:Nat->Nat}{i:Nat}{sv uv vv nv cv cv':Value}(h:WK w w1 n wb ob (entN f i o) sv uv vv nv (.slice (some ⟨g,0,none⟩) o.procs.length cap) cv cv') (k:Below w1.heap.size w1 w2) {e:Ob.En}(he:o.procs[i]?=some e):WK w (w2.setCell ⟨g,i * 3,none⟩ (.int .i64 (f e.at'.toNat:Int))) n wb ob (entN f (i+1) o) sv uv vv nv (.slice (some ⟨g,0,none⟩) o.procs.length cap) cv cv':=by
 have hl:=yL f i o
 have h1:=h.wo.on k
 have hi:=(List.getElem?_eq_some_iff.1 he).1
 rw[<-hl]at h1
 obtain⟨a,b⟩:=h1.ent ((uh hi).trans he) (f e.at'.toNat:Int)
 rw[hl]at a b
 refine⟨?_,(h.kp.on k).trans b⟩
 have e1:entN f (i+1) o={ entN f i o with procs:=(entN f i o).procs.set i { e with at':=(f e.at'.toNat:Int) } }:=by
  rw[<-entN_next he]
  rfl
 rw[e1]
 exact a
theorem aim_any {w:World}{n wb ob:Nat}{o:O}{sv uv vv nv pv cv:Value}(hO:Vm.Okc o) (h:Wo w n wb ob o sv uv vv nv pv cv):Calls Tryz.prog 52 #[.pointer (some ⟨wb,0,none⟩)] w (WKP w n wb ob (Vm.aimO o) sv uv vv nv pv cv):=by
 have hne:0<o.code.length:=by
  obtain⟨z,h1,_⟩:=hO.last
  cases hc:o.code with
  | nil=>rw[hc]at h1;cases h1
  | cons _ _=>simp
 obtain⟨g,cap,rfl,-,hca⟩:=h.code hne
 obtain⟨pa,pcap,rfl⟩:=zy h.pr
 have hn4:=hO.n4
 obtain⟨ln,hln⟩:∃ ln,ln=o.code.length:=⟨_,rfl⟩
 obtain⟨pn,hpn⟩:∃ pn,pn=o.procs.length:=⟨_,rfl⟩
 have HLN:Hid (ln=o.code.length):=hln
 have HPN:Hid (pn=o.procs.length):=hpn
 have HO:=zh hO
 have HCP:Hid ((ln:Int)<=cap):=by show _<=_;have:=hca.lc;omega
 have k0:=hca.k0
 have k6:=hca.k6
 have lw:=zi k0
 have lo:=zi k6
 have HI0:Hid (WK w w n wb ob (Vm.aimN 0 o) sv uv vv nv (.slice pa o.procs.length pcap) (.slice (some ⟨g,0,none⟩) o.code.length cap) (.slice (some ⟨g,0,none⟩) o.code.length cap)):=⟨h,Kpt.refl _ _ _ _⟩
 have hcp:=HCP.out
 rw[<-hln]at k6 HI0
 rw[<-hpn]at HI0
 rw[<-hpn,<-hln]
 have HL0:Hid (0<ln):=by show 0<ln;omega
 have hn4':(ln:Int)<=4000:=by omega
 clear hO h hca hne hln hpn hn4
 go_enter Tryz.func52,Tryz.ntmps52
 go_wp2_with fail
 go_loopg [13] ln (fun k vi wr=>∃ i:Nat,i<=ln/\k=ln - i/\vi=.int .i64 (i:Int)/\Hid (WK w wr n wb ob (Vm.aimN i o) sv uv vv nv (.slice pa pn pcap) (.slice (some ⟨g,0,none⟩) ln cap) (.slice (some ⟨g,0,none⟩) ln cap)))
 case atStart=>exact⟨0,by omega,by omega,rfl,HI0⟩
 case round =>
  obtain⟨i,hid,hk,rfl,HI⟩:=hrel
  obtain⟨-,hO1,hl1,-,-,hp1⟩:=Vm.aimN_ok HO.out i (by have:=HLN.out;omega)
  by_cases hlt:i<ln
  ·have hlt':(i:Int)<(ln:Int):=by omega
   have hil:i<(Vm.aimN i o).code.length:=by rw[hl1,<-HLN.out];exact hlt
   have hx:=Vm.get_d hil
   have hwo:Wo wr n wb ob (Vm.aimN i o) sv uv vv nv (.slice pa pn pcap) (.slice (some ⟨g,0,none⟩) (Vm.aimN i o).code.length cap):=by rw[hl1,<-HLN.out];exact HI.out.wo
   obtain⟨g',cap',e,-,hc⟩:=hwo.code (by omega)
   cases e
   have HS:=zh (xT hO1 (hc.on (zt wr)) hx)
   have HRW:Hid (∀ W,Below wr.drew.heap.size wr.drew W->Rw W wb ob g cap ln i ((Vm.aimN i o).code.getD i Vm.in0)):=fun W hb=>by have:=hwo.rw ((zt wr).trans hb) hx;rw[hl1,<-HLN.out]at this;exact this
   have HNX:Hid (∀ W,Below wr.drew.heap.size wr.drew W->WK w (set3 W g (i * 3) (Vm.strF (Vm.aimN i o).code i ((Vm.aimN i o).code.getD i Vm.in0))) n wb ob (Vm.aimN (i+1) o) sv uv vv nv (.slice pa pn pcap) (.slice (some ⟨g,0,none⟩) ln cap) (.slice (some ⟨g,0,none⟩) ln cap)):=fun W hb=>by
    have hwk:WK w wr n wb ob (Vm.aimN i o) sv uv vv nv (.slice pa pn pcap) (.slice (some ⟨g,0,none⟩) ln cap) (.slice (some ⟨g,0,none⟩) (Vm.aimN i o).code.length cap):=by rw[hl1,<-HLN.out];exact HI.out
    have:=hwk.put ((zt wr).trans hb) hil (Vm.strF (Vm.aimN i o).code i ((Vm.aimN i o).code.getD i Vm.in0))
    rw[hl1,<-HLN.out]at this
    exact this
   obtain⟨r0,r6,d0,d1,d2,rf,rl,ro,rg⟩:=hwo.rw (Below.refl _ _) hx
   rw[hl1,<-HLN.out]at r6
   obtain⟨y,hy⟩:∃ y,y=Vm.strF (Vm.aimN i o).code i ((Vm.aimN i o).code.getD i Vm.in0):=⟨_,rfl⟩
   obtain⟨yo,ya,yb⟩:=y
   rw[<-hy]at HS HNX
   generalize (Vm.aimN i o).code.getD i Vm.in0=x at *
   obtain⟨xo,xa,xb⟩:=x
   unfold set3 at HNX
   unfold StrP iA at HS
   have hcp2:=HCP.out
   clear hO1 hl1 hp1 hil hx hwo hc HI hy
   go_wp2_with fail
   go_region_law (first|(refine zI rfl ?_;go_simp;go_at_call 79;refine HS.out.mono ?_;rintro e w2 ⟨rfl,hb2⟩;obtain⟨z0,z6,e0,e1,e2,ef,el,eo,eg⟩:=HRW.out w2 hb2;have HN2:=zh (HNX.out w2 hb2);clear hb2 HRW HNX))
   all_goals
    go_wp2_with fail
    go_roundg (ln - (i+1))
    case measure=>omega
    case rel=>exact⟨i+1,by omega,rfl,by go_num,HN2⟩
  ·have hlt':¬(i:Int)<(ln:Int):=by omega
   have hie:i=ln:=by omega
   subst hie
   obtain⟨p,hp⟩:∃ p,p=Vm.aimN i o:=⟨_,rfl⟩
   have hpo:Vm.aimO o=Vm.entO p (Vm.onward p.code):=by unfold Vm.aimO;rw[<-HLN.out,<-hp]
   rw[<-hp]at HI hO1 hl1 hp1
   have HPO:=zh hpo
   have HOP:=zh hO1
   have HPR:Hid (p.procs.length=pn):=by show _=_;rw[hp1,<-HPN.out]
   have HCL:Hid (p.code.length=i):=by show _=_;rw[hl1,<-HLN.out]
   obtain⟨f,hf⟩:∃ f,f=Vm.onward p.code:=⟨_,rfl⟩
   have HF:Hid (f=Vm.onward p.code):=hf
   have HI2:Hid (WK w wr n wb ob (entN f 0 p) sv uv vv nv (.slice pa pn pcap) (.slice (some ⟨g,0,none⟩) i cap) (.slice (some ⟨g,0,none⟩) i cap)):=by rw[vy];exact HI.out
   have k0':wr.cell? ⟨wb,0,none⟩=some (.pointer (some ⟨ob,0,none⟩)):=(zc HI.out.wo.wk).trans rfl
   have k4':wr.cell? ⟨ob,4,none⟩=some (.slice pa pn pcap):=(zc HI.out.wo.ok).trans rfl
   have lw':=zi k0'
   have lo':=zi k4'
   have hpc:(pn:Int)<=9223372036854775807:=by
    have:=xE HI.out.wo.pr
    rw[hp1,<-HPN.out]at this
    unfold maxLen at this
    omega
   clear hp hpo hO1 hl1 hp1 hf HI HI0 HL0
   go_wp2_with fail
   go_loopg [37] pn (fun k vi wr=>∃ j:Nat,j<=pn/\k=pn - j/\vi=.int .i64 (j:Int)/\Hid (WK w wr n wb ob (entN f j p) sv uv vv nv (.slice pa pn pcap) (.slice (some ⟨g,0,none⟩) i cap) (.slice (some ⟨g,0,none⟩) i cap)))
   case atStart=>exact⟨0,by omega,by omega,rfl,HI2⟩
   case round =>
    clear k0' k4' lw' lo' HI2
    rename_i wrX _ _ _ _
    obtain⟨j,hjd,hjk,rfl,HJ⟩:=hrel
    by_cases hjt:j<pn
    ·have hjt':(j:Int)<(pn:Int):=by omega
     obtain⟨e,he⟩:∃ e,p.procs[j]?=some e:=⟨_,List.getElem?_eq_getElem (by rw[HPR.out];exact hjt)⟩
     have hwo:Wo wr n wb ob (entN f j p) sv uv vv nv (.slice pa p.procs.length pcap) (.slice (some ⟨g,0,none⟩) i cap):=by rw[HPR.out];exact HJ.out.wo
     obtain⟨gp,capp,curp,hpv,-,-,hcpp,-⟩:=yQ hwo.pr (by rw[yL,HPR.out];omega)
     have hpa:pa=some ⟨gp,0,none⟩:=by injection hpv
     subst hpa
     clear hpv
     obtain⟨l0,l1⟩:=HOP.out.ent e (List.mem_of_getElem? he)
     have HWK:Hid (WK w wr n wb ob (entN f j p) sv uv vv nv (.slice (some ⟨gp,0,none⟩) p.procs.length pcap) (.slice (some ⟨g,0,none⟩) i cap) (.slice (some ⟨g,0,none⟩) i cap)):=by show WK _ _ _ _ _ _ _ _ _ _ _ _ _;rw[HPR.out];exact HJ.out
     obtain⟨w1,hw1⟩:∃ w1,w1=wr.alloc (.cells #[.int .i64 e.at',.int .i64 e.args,.int .i64 e.locals] 98):=⟨_,rfl⟩
     have hb1:Below wr.heap.size wr w1:=by rw[hw1];exact zb _ _
     have hx1:w1.heap[wr.heap.size]?=some (.cells #[.int .i64 e.at',.int .i64 e.args,.int .i64 e.locals] 98 (0,0)):=by rw[hw1];exact zw wr _
     have hPW:∀ W,Below wr.heap.size wr W->Pw W wb ob gp pcap pn j e:=fun W hb=>by
      have h1:Wo wr n wb ob (entN f j p) sv uv vv nv (.slice (some ⟨gp,0,none⟩) (entN f j p).procs.length pcap) (.slice (some ⟨g,0,none⟩) i cap):=by rw[yL];exact hwo
      have:=h1.pw hb ((uh (by rw[HPR.out];exact hjt)).trans he)
      rw[yL,HPR.out]at this
      exact this
     obtain⟨ka,hka⟩:=Int.eq_ofNat_of_zero_le l0
     have hna:e.at'.toNat=ka:=by omega
     have HON:Hid (Calls Tryz.prog 80 #[.pointer (some ⟨wb,0,none⟩),.int .i64 e.at'] w1.drew (OnP w1.drew (f ka))):=by
      have hco:({ p with procs:=(entN f j p).procs }:O).code=p.code:=rfl
      obtain⟨g',cap',e1,-,hc⟩:=(hwo.on (hb1.drew)).code (by show 0<p.code.length;omega)
      have:=xe HOP.out (a:=ka) (by exact hc) (by omega)
      rw[HF.out,hka]
      exact this
     have HNX:Hid (∀ W,Below w1.drew.heap.size w1.drew W->WK w (W.setCell ⟨gp,j * 3,none⟩ (.int .i64 (f ka:Int))) n wb ob (entN f (j+1) p) sv uv vv nv (.slice (some ⟨gp,0,none⟩) pn pcap) (.slice (some ⟨g,0,none⟩) i cap) (.slice (some ⟨g,0,none⟩) i cap)):=fun W hb=>by
      have:=HWK.out.ent (hb1.drew.trans (hb.mono hb1.size)) he
      rw[hna,HPR.out]at this
      exact this
     have HPW:Hid (∀ W,Below w1.drew.heap.size w1.drew W->Pw W wb ob gp pcap pn j e/\W.cell? ⟨wr.heap.size,0,none⟩=some (.int .i64 e.at')/\wr.heap.size<W.heap.size):=fun W hb=>⟨hPW W (hb1.drew.trans (hb.mono hb1.size)),zv hb (((zc hx1).trans rfl):w1.cell? ⟨wr.heap.size,0,none⟩=some (.int .i64 e.at')),Nat.lt_of_lt_of_le (zk hx1) hb.size⟩
     obtain⟨s0,s4,d0,d1,d2,sf,sl,so,sg⟩:=hPW wr (Below.refl _ _)
     obtain⟨r0,r4,b0,b1,b2,rf,rl,ro,rg⟩:=hPW w1 hb1
     have x0:w1.cell? ⟨wr.heap.size,0,none⟩=some (.int .i64 e.at'):=(zc hx1).trans rfl
     have xl:=zk hx1
     have hcpp':(pn:Int)<=pcap:=by
      have h1:=yQ (w:=wr) hwo.pr (by rw[yL,HPR.out];omega)
      obtain⟨_,_,_,q1,-,-,q2,-⟩:=h1
      injection q1 with _ _ q1
      rw[yL,HPR.out]at q2
      omega
     have HCP2:=zh hcpp'
     obtain⟨ea,eb,ec⟩:=e
     clear hwo hb1 hx1 hPW HWK HJ he hna hka l0 l1 hcpp
     go_upto_region 8 with fail
     rw[<-hw1]
     clear hw1 s0 s4 d0 d1 d2 sf sl so sg
     go_region_law (first|(refine zI rfl ?_;go_simp;go_at_call 80;refine HON.out.mono ?_;rintro e w2 ⟨rfl,hb2⟩;obtain⟨⟨z0,z4,e0,e1,e2,ef,el,eo,eg⟩,xc,xl2⟩:=HPW.out w2 hb2;have HN2:=zh (HNX.out w2 hb2);clear hb2 HPW HNX))
     all_goals
      go_wp2_with fail
      go_roundg (pn - (j+1))
      case measure=>omega
      case rel=>exact⟨j+1,by omega,rfl,by go_num,HN2⟩
    ·have hjt':¬(j:Int)<(pn:Int):=by omega
     have hje:j=pn:=by omega
     subst hje
     have HFIN:Hid (WK w wr n wb ob (Vm.aimO o) sv uv vv nv (.slice pa j pcap) (.slice (some ⟨g,0,none⟩) i cap) (.slice (some ⟨g,0,none⟩) i cap)):=by
      rw[HPO.out,<-HF.out,<-entN_all,HPR.out]
      exact HJ.out
     clear HJ
     go_wp2_with fail
     exact ze rfl rfl ⟨rfl,_,HFIN.out⟩
end Go.Proofs.YtmnedfdffbbchaaGreatDoor.Jo
