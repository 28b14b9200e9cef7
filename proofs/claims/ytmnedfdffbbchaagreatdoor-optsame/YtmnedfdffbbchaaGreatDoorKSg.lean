import Derived.Test.YtmnedfdffbbchaaGreatDoorKSf
set_option maxRecDepth 100000
set_option maxHeartbeats 4000000

namespace Go.Proofs.YtmnedfdffbbchaaGreatDoor.Jo
open Go.RowKit Go.Sort
open Ob (O In I64)
open Tp (Bs)
theorem vM {w:World}{n wb ob ab:Nat}{o:O}{R aim:Nat->Bool}{sv uv vv nv pv cv:Value}(hR:Vm.Rg o) (h:Wo w n wb ob o sv uv vv nv pv cv) (hn:n<=w.heap.size) (hm:Mk8 w) (hG:1<n) (hM:Vm.Mkd o R aim) (hmk:Mks w ab R aim):Calls Tryz.prog 53 #[.pointer (some ⟨wb,0,none⟩),.pointer (some ⟨ab,0,none⟩)] w (WKP w n wb ob (Vm.sqO o R aim) sv uv vv nv pv cv):=by
 obtain⟨hO,hI⟩:=Vm.rg_okc hR
 have hn4:o.code.length<=4000:=hO.n4
 have hne:0<o.code.length:=by
  obtain⟨z,h1,_⟩:=hO.last
  cases hc:o.code with
  | nil=>rw[show (Vm.nu o).code=o.code from rfl,hc]at h1;cases h1
  | cons _ _=>simp
 obtain⟨cg,ccap,rfl,-,hca⟩:=h.code hne
 have HO:=zh hO
 have HI:=zh hI
 have HW:=zh h
 have HN:=zh hn
 have HN4:=zh hn4
 have HCA:Hid (∀ W,Below w.heap.size w W->CodeAt W wb ob cg ccap o.code):=fun W hb=>hca.on hb
 have HMK:Hid (∀ W,Below w.heap.size w W->Mks W ab R aim):=fun W hb=>hmk.of (hb.block _ hmk.lt)
 have HM8:Hid (∀ W,Below w.heap.size w W->Mk8 W):=fun W hb=>hm.on hb
 have HG:Hid (1<w.heap.size):=Nat.lt_of_lt_of_le hG hn
 obtain⟨w1,hw1⟩:∃ w1,w1=w.alloc (.cells zPlace 142):=⟨_,rfl⟩
 have hs1:w.heap.size<w1.heap.size:=by rw[hw1];show _<(w.heap.push _).size;rw[Array.size_push];omega
 have hb1:Below w.heap.size w w1:=by rw[hw1];exact zb _ _
 have hp1:Pls w1 w.heap.size (fun _=>0) 0:=by rw[hw1];exact pls_new w
 obtain⟨w2,hw2⟩:∃ w2,w2=w1.alloc (.cells #[.slice none 0 0,.int .i64 0,.nilFunc] 144):=⟨_,rfl⟩
 have hs2:w2.heap.size=w1.heap.size+1:=by rw[hw2];show (w1.heap.push _).size=_;rw[Array.size_push]
 have hb2:Below w1.heap.size w1 w2:=by rw[hw2];exact zb _ _
 have hl2:w2.heap[w1.heap.size]?=some (.cells #[.slice none 0 0,.int .i64 0,.nilFunc] 144 (0,0)):=by rw[hw2];exact zw w1 _
 obtain⟨w3,hw3⟩:∃ w3,w3=w2.alloc (.cells #[.int .i64 0] 3):=⟨_,rfl⟩
 have hb3:Below w2.heap.size w2 w3:=by rw[hw3];exact zb _ _
 have he3:w3.heap[w1.heap.size+1]?=some (.cells #[.int .i64 0] 3 (0,0)):=by rw[<-hs2,hw3];exact zw w2 _
 have hl3:w3.heap[w1.heap.size]?=some (.cells #[.slice none 0 0,.int .i64 0,.nilFunc] 144 (0,0)):=(hb3.block _ (by omega)).trans hl2
 have hp3:Pls w3 w.heap.size (fun _=>0) 0:=(hp1.of (hb2.block _ hs1)).of (hb3.block _ (by omega))
 have hb03:Below w.heap.size w w3:=(hb1.trans (hb2.mono (Nat.le_of_lt hs1))).trans (hb3.mono (by omega))
 obtain⟨eb,heb⟩:∃ eb,eb=w1.heap.size+1:=⟨_,rfl⟩
 obtain⟨lb,hlb⟩:∃ lb,lb=w1.heap.size:=⟨_,rfl⟩
 obtain⟨pb,hpb⟩:∃ pb,pb=w.heap.size:=⟨_,rfl⟩
 obtain⟨w4,hw4⟩:∃ w4,w4=w3.setCell ⟨lb,2,none⟩ (freeV lb eb):=⟨_,rfl⟩
 rw[<-heb]at he3
 rw[<-hlb]at hl3
 rw[<-hpb]at hp3
 have hne4:∀ b,b≠lb->w4.heap[b]?=w3.heap[b]?:=fun b hb=>by rw[hw4];exact Below.heap_setCell _ _ _ _ (by exact hb)
 have hj0:SqM w w4 o R aim pb lb eb 0 0 [] (fun _=>0) 0 nilS:=⟨by rw[hw4];exact hb03.setCell (by show _<=lb;omega) _,⟨by omega,by omega,by rw[hw4];exact zC 2 _ hl3,(hne4 _ (by omega)).trans he3,World.ownsRow_nil _ _ _ _⟩,by omega,hp3.of (hne4 _ (by omega)),Vm.sqs_start hO hM⟩
 have HJ0:=zh hj0
 have f2:w3.cell? ⟨lb,2,none⟩=some .nilFunc:=(zc hl3).trans rfl
 have ff:∀ j,w3.frozen? ⟨lb,j,none⟩=false:=fun _=>zr hl3
 have fl:=zk hl3
 have fs:(store ⟨lb,2,none⟩ (.func (.func 81) #[] #[.pointer (some ⟨lb,0,none⟩),.pointer (some ⟨eb,0,none⟩)])).run Tryz.prog w3=.ok () w4:=by
  rw[hw4]
  simp[store,Sem.run,f2,ff,freeV]
 have hbw4:=hj0.be
 have k0:w4.cell? ⟨wb,0,none⟩=some (.pointer (some ⟨ob,0,none⟩)):=(hca.on hbw4).k0
 have k6:w4.cell? ⟨ob,6,none⟩=some (.slice (some ⟨cg,0,none⟩) o.code.length ccap):=(hca.on hbw4).k6
 have lw:=zi k0
 have lo:=zi k6
 have hccap:(o.code.length:Int)<=ccap:=by have:=hca.lc;omega
 have HC2:=zh hccap
 have HW1:=zh hw1
 have HW2:=zh hw2
 have HW3:=zh hw3
 have HW4:=zh hw4
 have HEB:=zh heb
 have HLB:=zh hlb
 have HPB:=zh hpb
 have hln4:(o.code.length:Int)<=4000:=by omega
 clear hR h hn hm hG hmk hO hI hca hn4 hw1 hs1 hb1 hp1 hw2 hs2 hb2 hl2 hw3 hb3 he3 hl3 hp3 hb03 heb hlb hpb hw4 hne4 hj0 hbw4
 go_enter Tryz.func53,Tryz.ntmps53
 go_upto_region 0 with fail
 go_upto_region 3 with(refine ko rfl 142 rfl _ _ (ut _) ?_;rw[<-HW1.out])
 rw[<-HW2.out,<-HW3.out,<-HEB.out,<-HLB.out,<-HPB.out]
 unfold freeV at HW4
 go_upto_region 4 with fail
 clear f2 ff fl fs HW1 HW2 HW3 HW4
 go_wp2_with fail
 obtain⟨ln,hln⟩:∃ ln,ln=o.code.length:=⟨_,rfl⟩
 have HLN:=zh hln
 go_loopg [23] o.code.length (fun k vi wr=>∃(i nx:Nat) (l:List In) (pl:Nat->Nat) (e:Nat) (v:Value),i<=o.code.length/\k=o.code.length - i/\vi=.int .i64 (i:Int)/\Hid (SqM w wr o R aim pb lb eb i nx l pl e v))
 case atStart=>exact⟨0,_,_,_,_,_,by omega,by omega,rfl,HJ0⟩
 case round =>
  clear k0 k6 lw lo HJ0
  obtain⟨i,nx,l,pl,e,v,hid,hik,rfl,HJ⟩:=hrel
  by_cases hit:i<o.code.length
  ·obtain⟨x,hx⟩:∃ x,o.code[i]?=some x:=⟨_,List.getElem?_eq_getElem hit⟩
   have hi4:i<4000:=by have:=HN4.out;omega
   have hcA:=HCA.out wr HJ.out.be
   obtain⟨x0,x1,x2⟩:=hcA.at' i x hx
   have xg:=hcA.lg
   have hccap:=HC2.out
   obtain⟨va,vc,rfl⟩:=zy HJ.out.ld.cr
   obtain⟨wa,hwa⟩:∃ wa,wa=wr.alloc (.cells #[.int .i64 x.op,.int .i64 x.a,.int .i64 x.b] 68):=⟨_,rfl⟩
   have hba:Below wr.heap.size wr wa:=by rw[hwa];exact zb _ _
   have hxa:wa.heap[wr.heap.size]?=some (.cells #[.int .i64 x.op,.int .i64 x.a,.int .i64 x.b] 68 (0,0)):=by rw[hwa];exact zw wr _
   have hlda:=HJ.out.ld.on hba
   have hppa:=HJ.out.pp.of (hba.block _ HJ.out.pp.lt)
   have hbwa:Below w.heap.size w wa:=HJ.out.be.trans (hba.mono HJ.out.be.size)
   obtain⟨n1,n2,n3⟩:=hlda.pne hppa
   have l0:wa.cell? ⟨lb,0,none⟩=some (.slice va l.length vc):=(zc hlda.lk).trans rfl
   have l1:wa.cell? ⟨lb,1,none⟩=some (.int .i64 (nx:Int)):=(zc hlda.lk).trans rfl
   have lf:∀ j,wa.frozen? ⟨lb,j,none⟩=false:=fun _=>zr hlda.lk
   have ll:=zk hlda.lk
   have pf:=hppa.frz
   have pl':=hppa.lt
   obtain⟨u0,p0⟩:=hppa.there hi4
   have n1':lb≠pb:=fun q=>n1 q.symm
   have hlc:l.length<=4000:=by have:=HJ.out.st.inv.hl;omega
   obtain⟨hq1,hq2⟩:=hlda.next hppa hi4
   have hc1:((i+1:Nat):Int)=(i:Int)+1:=by omega
   rw[hc1]at hq1 hq2
   obtain⟨wq,hwq⟩:∃ wq,wq=(wa.setCell ⟨pb,i,none⟩ (.int .i64 (l.length:Int))).setCell ⟨lb,1,none⟩ (.int .i64 ((i:Int)+1)):=⟨_,rfl⟩
   rw[<-hwq]at hq1 hq2
   have hbq:Below w.heap.size w wq:=by rw[hwq];exact(hbwa.setCell HJ.out.pg _).setCell (HJ.out.ld.nl) _
   have hkq:∀ b,b≠pb->b≠lb->wq.heap[b]?=wa.heap[b]?:=fun b h1 h2=>by rw[hwq];exact(Below.heap_setCell _ _ _ _ (by exact h2)).trans (Below.heap_setCell _ _ _ _ (by exact h1))
   have hxq:wq.heap[wr.heap.size]?=some (.cells #[.int .i64 x.op,.int .i64 x.a,.int .i64 x.b] 68 (0,0)):=(hkq _ (by have:=HJ.out.pp.lt;omega) (by have:=zk HJ.out.ld.lk;omega)).trans hxa
   obtain⟨wq2,hwq2⟩:∃ wq2,wq2=wq.setCell ⟨eb,0,none⟩ (.int .i64 (l.length:Int)):=⟨_,rfl⟩
   obtain⟨hr1,hr2⟩:=hq1.edge (e':=l.length) hq2
   rw[<-hwq2]at hr1 hr2
   have hbq2:Below w.heap.size w wq2:=by rw[hwq2];exact hbq.setCell (HJ.out.ld.ne) _
   have hxq2:wq2.heap[wr.heap.size]?=some (.cells #[.int .i64 x.op,.int .i64 x.a,.int .i64 x.b] 68 (0,0)):=by rw[hwq2];exact(Below.heap_setCell _ _ _ _ (by have:=zk HJ.out.ld.ek;show wr.heap.size≠eb;omega)).trans hxq
   obtain⟨v8,hv8⟩:∃ v8,v8=mkv (R i) (aim i):=⟨_,rfl⟩
   have m0:wq.cell? ⟨ab,i,none⟩=some (.int .u8 v8):=by rw[hv8];exact(HMK.out wq hbq).cell hi4
   have m1:=(HMK.out wq hbq).lt
   have q0:wq.cell? ⟨pb,i,none⟩=some (.int .i64 (l.length:Int)):=by
    have:=hq2.cell (q:=i) (by omega)
    unfold Vm.plA at this
    rw[if_pos rfl]at this
    exact this
   have q1:wq.cell? ⟨eb,0,none⟩=some (.int .i64 (e:Int)):=(zc hq1.ek).trans rfl
   have q2:∀ j,wq.frozen? ⟨eb,j,none⟩=false:=fun _=>zr hq1.ek
   have q3:=zk hq1.ek
   have q4:=hq2.lt
   have m2:wq2.cell? ⟨ab,i,none⟩=some (.int .u8 v8):=by rw[hv8];exact(HMK.out wq2 hbq2).cell hi4
   have m3:=(HMK.out wq2 hbq2).lt
   have HWQ:=zh hwq
   have HWQ2:=zh hwq2
   have HSK:Hid ((R i=true->o.code[i]?=some (Vm.idl i))->∀ W e',((aim i=false/\e'=e/\Below wq.heap.size wq W)\/(aim i=true/\e'=l.length/\Below wq2.heap.size wq2 W))->SqM w W o R aim pb lb eb (i+1) (i+1) l (Vm.plA pl i l.length) e' (.slice va l.length vc)):=fun hs W e' hW=>by
    rcases hW with⟨ha,rfl,hb⟩|⟨ha,rfl,hb⟩
    ·exact HJ.out.skip HO.out hit hs (hbq.trans (hb.mono hbq.size)) (hq1.on hb) (by unfold Vm.nxE;rw[ha];rfl) (hq2.of (hb.block _ hq2.lt))
    ·exact HJ.out.skip HO.out hit hs (hbq2.trans (hb.mono hbq2.size)) (hr1.on hb) (by unfold Vm.nxE;rw[if_pos ha]) (hr2.of (hb.block _ hr2.lt))
   have HAD:Hid (R i=true->x≠Vm.idl i->∀ W e',((aim i=false/\e'=e/\Below wq.heap.size wq W)\/(aim i=true/\e'=l.length/\Below wq2.heap.size wq2 W))->Calls Tryz.prog 83 #[.pointer (some ⟨lb,0,none⟩),iA x] W (fun ed W'=>ed=.returned (.tuple #[])/\∃ l' v',SqM w W' o R aim pb lb eb (i+1) (i+1) l' (Vm.plA pl i l.length) e' v')):=fun hRi hni W e' hW=>by
    obtain⟨hpre,hg2,hst⟩:=Vm.sqs_add HO.out HI.out HJ.out.st hx hRi hni
    have key:Ld W w.heap.size lb eb (i+1) e' l (.slice va l.length vc)/\Pls W pb (Vm.plA pl i l.length) (i+1)/\Below w.heap.size w W/\e'=Vm.nxE aim i l.length e:=by
     rcases hW with⟨ha,rfl,hb⟩|⟨ha,rfl,hb⟩
     ·exact⟨hq1.on hb,hq2.of (hb.block _ hq2.lt),hbq.trans (hb.mono hbq.size),by unfold Vm.nxE;rw[ha];rfl⟩
     ·exact⟨hr1.on hb,hr2.of (hb.block _ hr2.lt),hbq2.trans (hb.mono hbq2.size),by unfold Vm.nxE;rw[if_pos ha]⟩
    obtain⟨k1,k2,k3,k4⟩:=key
    rw[<-k4]at hpre hst
    refine(add_all HO.out.al (by omega) HG.out _ hg2 W l x _ k1 (HM8.out W k3) k3.size hpre).mono ?_
    rintro ed W' ⟨rfl,v',g1,g2⟩
    obtain⟨d1,d2,d3⟩:=k1.pne k2
    exact⟨rfl,_,v',k3.trans (g2.below k3.size k1.nl (fun g q=>by cases q) (fun g q=>zG k1.cr g q)),g1,HJ.out.pg,k2.of (g2.block _ k2.lt d1 (fun q=>by cases q) d3),by rw[k4];rw[<-k4];exact hst⟩
   have HID:=zh (fun W (hb:Below w.heap.size w W)=>idle_any (HCA.out W hb) hx HN4.out)
   have hIDL:Hid (∀ b,IdlB i x=b->(b=true↔x=Vm.idl i)):=fun b hb=>by rw[<-hb];exact idlB_iff
   have HX1:=zh hxq
   have HX2:=zh hxq2
   have HBQ:=zh hbq
   have HBQ2:=zh hbq2
   have HX:=zh hx
   obtain⟨xo,xa,xb⟩:=x
   unfold iA at HAD
   generalize hbi:IdlB i ⟨xo,xa,xb⟩=bi at *
   have hidl:=zh (hIDL.out bi rfl)
   have hit':(i:Int)<o.code.length:=by omega
   have hi4':(i:Int)<4000:=by omega
   generalize hln0:o.code.length=cn at *
   generalize hll:l.length=ll0 at *
   clear hx HJ hcA hba hxa hlda hppa hbwa n2 n3 hc1 hq1 hq2 hbq hkq hxq hr1 hr2 hbq2 hxq2 hwq hwq2 hIDL hbi hln0 hll hM hne
   cases hRi:R i with
   | false =>
    cases ha:aim i with
    | false =>
     have ea:bits BinOp.and IntKind.u8 v8 2=0:=by rw[hv8,yV,ha];rfl
     have er:bits BinOp.and IntKind.u8 v8 1=0:=by rw[hv8,yM,hRi];rfl
     have HN:=zh (HSK.out (fun q=>Bool.noConfusion (hRi.symm.trans q)))
     have HA:=zh ha
     clear hv8 HSK HAD hRi ha hidl HX
     go_upto_region 7 with fail
     rw[<-hwa]
     clear hwa x0 x1 x2 xg
     go_upto_region 8 with fail
     rw[<-HWQ.out]
     clear HWQ l0 l1 lf ll pf pl' p0
     go_upto_region 10 with fail
     clear HWQ2 m2 m3 q0 q1 q2 q3 q4
     go_wp2_with fail
     go_roundg (cn - (i+1))
     case measure=>omega
     case rel=>exact⟨i+1,_,_,_,_,_,by omega,rfl,by go_num,HN.out wq _ (Or.inl ⟨HA.out,rfl,Below.refl _ _⟩)⟩
    | true =>
     have ea:bits BinOp.and IntKind.u8 v8 2=2:=by rw[hv8,yV,ha];rfl
     have er:bits BinOp.and IntKind.u8 v8 1=0:=by rw[hv8,yM,hRi];rfl
     have HN:=zh (HSK.out (fun q=>Bool.noConfusion (hRi.symm.trans q)))
     have HA:=zh ha
     clear hv8 HSK HAD hRi ha hidl HX
     go_upto_region 7 with fail
     rw[<-hwa]
     clear hwa x0 x1 x2 xg
     go_upto_region 8 with fail
     rw[<-HWQ.out]
     clear HWQ l0 l1 lf ll pf pl' p0
     go_upto_region 10 with fail
     rw[<-HWQ2.out]
     clear HWQ2 m0 m1 q0 q1 q2 q3 q4
     go_wp2_with fail
     go_roundg (cn - (i+1))
     case measure=>omega
     case rel=>exact⟨i+1,_,_,_,_,_,by omega,rfl,by go_num,HN.out wq2 _ (Or.inr ⟨HA.out,rfl,Below.refl _ _⟩)⟩
   | true =>
    cases bi with
    | true =>
     cases ha:aim i with
     | false =>
      have ea:bits BinOp.and IntKind.u8 v8 2=0:=by rw[hv8,yV,ha];rfl
      have er:bits BinOp.and IntKind.u8 v8 1=1:=by rw[hv8,yM,hRi];rfl
      have HN:=zh (HSK.out (fun _=>by rw[HX.out,hidl.out.1 rfl]))
      have HA:=zh ha
      clear hv8 HSK HAD hRi ha hidl HX
      go_upto_region 7 with fail
      rw[<-hwa]
      clear hwa x0 x1 x2 xg
      go_upto_region 8 with fail
      rw[<-HWQ.out]
      clear HWQ l0 l1 lf ll pf pl' p0
      go_upto_region 10 with fail
      clear HWQ2 m2 m3 q0 q1 q2 q3 q4
      go_wp2_with fail
      refine(HID.out wq HBQ.out).mono ?_
      rintro e6 w6 ⟨rfl,hb6⟩
      have HB6:=zh hb6
      obtain⟨y0,y1,y2,y3,-⟩:=in3 ((hb6.block _ (zk HX1.out)).trans HX1.out)
      clear hb6
      go_wp2_with fail
      go_roundg (cn - (i+1))
      case measure=>omega
      case rel=>exact⟨i+1,_,_,_,_,_,by omega,rfl,by go_num,HN.out w6 _ (Or.inl ⟨HA.out,rfl,HB6.out⟩)⟩
     | true =>
      have ea:bits BinOp.and IntKind.u8 v8 2=2:=by rw[hv8,yV,ha];rfl
      have er:bits BinOp.and IntKind.u8 v8 1=1:=by rw[hv8,yM,hRi];rfl
      have HN:=zh (HSK.out (fun _=>by rw[HX.out,hidl.out.1 rfl]))
      have HA:=zh ha
      clear hv8 HSK HAD hRi ha hidl HX
      go_upto_region 7 with fail
      rw[<-hwa]
      clear hwa x0 x1 x2 xg
      go_upto_region 8 with fail
      rw[<-HWQ.out]
      clear HWQ l0 l1 lf ll pf pl' p0
      go_upto_region 10 with fail
      rw[<-HWQ2.out]
      clear HWQ2 m0 m1 q0 q1 q2 q3 q4
      go_wp2_with fail
      refine(HID.out wq2 HBQ2.out).mono ?_
      rintro e6 w6 ⟨rfl,hb6⟩
      have HB6:=zh hb6
      obtain⟨y0,y1,y2,y3,-⟩:=in3 ((hb6.block _ (zk HX2.out)).trans HX2.out)
      clear hb6
      go_wp2_with fail
      go_roundg (cn - (i+1))
      case measure=>omega
      case rel=>exact⟨i+1,_,_,_,_,_,by omega,rfl,by go_num,HN.out w6 _ (Or.inr ⟨HA.out,rfl,HB6.out⟩)⟩
    | false =>
     cases ha:aim i with
     | false =>
      have ea:bits BinOp.and IntKind.u8 v8 2=0:=by rw[hv8,yV,ha];rfl
      have er:bits BinOp.and IntKind.u8 v8 1=1:=by rw[hv8,yM,hRi];rfl
      have HN:=zh (HAD.out hRi (fun q=>Bool.noConfusion (hidl.out.2 q)))
      have HA:=zh ha
      clear hv8 HSK HAD hRi ha hidl HX
      go_upto_region 7 with fail
      rw[<-hwa]
      clear hwa x0 x1 x2 xg
      go_upto_region 8 with fail
      rw[<-HWQ.out]
      clear HWQ l0 l1 lf ll pf pl' p0
      go_upto_region 10 with fail
      clear HWQ2 m2 m3 q0 q1 q2 q3 q4
      go_wp2_with fail
      refine(HID.out wq HBQ.out).mono ?_
      rintro e6 w6 ⟨rfl,hb6⟩
      have HB6:=zh hb6
      obtain⟨y0,y1,y2,y3,-⟩:=in3 ((hb6.block _ (zk HX1.out)).trans HX1.out)
      clear hb6
      go_wp2_with fail
      refine(HN.out w6 _ (Or.inl ⟨HA.out,rfl,HB6.out⟩)).mono ?_
      rintro e9 w9 ⟨rfl,l',v',hq9⟩
      have HN9:=zh hq9
      clear hq9 HN
      go_wp2_with fail
      go_roundg (cn - (i+1))
      case measure=>omega
      case rel=>exact⟨i+1,_,_,_,_,_,by omega,rfl,by go_num,HN9⟩
     | true =>
      have ea:bits BinOp.and IntKind.u8 v8 2=2:=by rw[hv8,yV,ha];rfl
      have er:bits BinOp.and IntKind.u8 v8 1=1:=by rw[hv8,yM,hRi];rfl
      have HN:=zh (HAD.out hRi (fun q=>Bool.noConfusion (hidl.out.2 q)))
      have HA:=zh ha
      clear hv8 HSK HAD hRi ha hidl HX
      go_upto_region 7 with fail
      rw[<-hwa]
      clear hwa x0 x1 x2 xg
      go_upto_region 8 with fail
      rw[<-HWQ.out]
      clear HWQ l0 l1 lf ll pf pl' p0
      go_upto_region 10 with fail
      rw[<-HWQ2.out]
      clear HWQ2 m0 m1 q0 q1 q2 q3 q4
      go_wp2_with fail
      refine(HID.out wq2 HBQ2.out).mono ?_
      rintro e6 w6 ⟨rfl,hb6⟩
      have HB6:=zh hb6
      obtain⟨y0,y1,y2,y3,-⟩:=in3 ((hb6.block _ (zk HX2.out)).trans HX2.out)
      clear hb6
      go_wp2_with fail
      refine(HN.out w6 _ (Or.inr ⟨HA.out,rfl,HB6.out⟩)).mono ?_
      rintro e9 w9 ⟨rfl,l',v',hq9⟩
      have HN9:=zh hq9
      clear hq9 HN
      go_wp2_with fail
      go_roundg (cn - (i+1))
      case measure=>omega
      case rel=>exact⟨i+1,_,_,_,_,_,by omega,rfl,by go_num,HN9⟩
  ·have hie:i=o.code.length:=by omega
   subst hie
   obtain⟨hsq,hlab,hent⟩:=Vm.sqs_done HJ.out.st rfl
   have hso:Vm.sqO o R aim=Vm.H o l pl:=by unfold Vm.sqO;rw[hsq]
   have HSO:=zh hso
   obtain⟨va,vc,rfl⟩:=zy HJ.out.ld.cr
   have HLAB:=zh hlab
   have HENT:=zh hent
   have l0:wr.cell? ⟨lb,0,none⟩=some (.slice va l.length vc):=(zc HJ.out.ld.lk).trans rfl
   have ll:=zk HJ.out.ld.lk
   have HS0:Hid (S2 w wr o.code.length pb lb eb nx l pl e (.slice va l.length vc) 0):=⟨HJ.out.be,by rw[Vm.relN_zero];exact HJ.out.ld,HJ.out.pg,HJ.out.pp⟩
   have hlm:(l.length:Int)<=4000:=by have:=HJ.out.st.inv.hl;have:=HN4.out;omega
   have hit':¬(o.code.length:Int)<o.code.length:=by omega
   obtain⟨pa,pcap,hpv⟩:=zy HW.out.pr
   subst hpv
   have HHOB:Hid (Vm.H o l pl=Vm.H o l pl):=rfl
   clear HJ hsq hlab hent hso hM hne HHOB
   go_wp2_with fail
   go_loopg [65] l.length (fun kq vi wz=>∃ k:Nat,k<=l.length/\kq=l.length - k/\vi=.int .i64 (k:Int)/\Hid (S2 w wz o.code.length pb lb eb nx l pl e (.slice va l.length vc) k))
   case atStart=>exact⟨0,by omega,by omega,rfl,HS0⟩
   case round =>
    clear l0 ll HS0
    obtain⟨k,hkd,hkk,rfl,HK⟩:=hrel
    by_cases hkt:k<l.length
    ·have hkt':(k:Int)<(l.length:Int):=by omega
     obtain⟨x,hx⟩:∃ x,l[k]?=some x:=⟨_,List.getElem?_eq_getElem hkt⟩
     have hrl:(Vm.relN pl k l).length=l.length:=Vm.relN_len pl k l
     have hld:=HK.out.ld
     obtain⟨g,cap,cur,hvq,hgn,hgb,hgc,hgx⟩:=yQ hld.cr (by rw[hrl];omega)
     rw[hrl]at hvq hgc hgx
     have hva:va=some ⟨g,0,none⟩:=by injection hvq
     have hvc:vc=cap:=by injection hvq
     subst hva hvc
     obtain⟨c0,c1,c2⟩:=jc ((Vm.relN_at (pl:=pl) hkt).trans hx)
     have x0:=(hgx (k * 3) (by omega)).trans c0
     have x1:=(hgx (k * 3+1) (by omega)).trans c1
     have x2:=(hgx (k * 3+2) (by omega)).trans c2
     have xg:=zk hgb
     have hgc':(l.length:Int)<=vc:=by omega
     obtain⟨wa,hwa⟩:∃ wa,wa=wr.alloc (.cells #[.int .i64 x.op,.int .i64 x.a,.int .i64 x.b] 68):=⟨_,rfl⟩
     have hba:Below wr.heap.size wr wa:=by rw[hwa];exact zb _ _
     have hxa:wa.heap[wr.heap.size]?=some (.cells #[.int .i64 x.op,.int .i64 x.a,.int .i64 x.b] 68 (0,0)):=by rw[hwa];exact zw wr _
     have HST:Hid (¬Vm.Go8 x->∀ W,Below wa.heap.size wa W->S2 w W o.code.length pb lb eb nx l pl e (.slice (some ⟨g,0,none⟩) l.length vc) (k+1)):=fun hng W hb=>(HK.out.on (hba.trans (hb.mono hba.size))).stay hx hng
     have HGO:Hid (Vm.Go8 x->∀ W,Below wa.heap.size wa W->∃ t:Nat,x.a=(t:Int)/\t<4000/\W.cell? ⟨pb,t,none⟩=some (.int .i64 (pl t:Int))/\W.cell? ⟨lb,0,none⟩=some (.slice (some ⟨g,0,none⟩) l.length vc)/\W.cell? ⟨g,k * 3+1,none⟩=some (.int .i64 x.a)/\(∀ j,W.frozen? ⟨g,j,none⟩=false)/\pb<W.heap.size/\lb<W.heap.size/\g<W.heap.size/\S2 w (W.setCell ⟨g,k * 3+1,none⟩ (.int .i64 (pl t:Int))) o.code.length pb lb eb nx l pl e (.slice (some ⟨g,0,none⟩) l.length vc) (k+1)):=fun hg W hb=>by
      have hbW:=hba.trans (hb.mono hba.size)
      have hS:=HK.out.on hbW
      obtain⟨q0,q1⟩:=HLAB.out x (List.mem_of_getElem? hx) hg
      obtain⟨t,ht⟩:=Int.eq_ofNat_of_zero_le q0
      have htn:x.a.toNat=t:=by omega
      rw[htn]at q1
      have:=hS.go hx hg
      rw[htn]at this
      exact⟨t,ht,by have:=HN4.out;omega,hS.pp.cell q1,zv hbW ((zc hld.lk).trans rfl),zv hbW x1,(fun _=>zr ((hbW.block _ xg).trans hgb)),hS.pp.lt,zk hS.ld.lk,Nat.lt_of_lt_of_le xg hbW.size,this⟩
     have HGT:=zh (fun W=>xj x (b:=(x.op == 12 || x.op == 13)) rfl W)
     have HXA:Hid (∀ W,Below wa.heap.size wa W->W.cell? ⟨wr.heap.size,0,none⟩=some (.int .i64 x.op)/\W.cell? ⟨wr.heap.size,1,none⟩=some (.int .i64 x.a)/\wr.heap.size<W.heap.size):=fun W hb=>⟨zv hb ((zc hxa).trans rfl),zv hb ((zc hxa).trans rfl),Nat.lt_of_lt_of_le (zk hxa) hb.size⟩
     obtain⟨y0,y1,y2,y3,-⟩:=in3 hxa
     have hg8:Vm.Go8 x↔x.op=12\/x.op=13:=Iff.rfl
     obtain⟨b,hb⟩:∃ b,b=(x.op == 12 || x.op == 13):=⟨_,rfl⟩
     have HB:Hid (b=true↔Vm.Go8 x):=by show _↔_;rw[hb,hg8];simp
     rw[<-hb]at HGT
     obtain⟨xo,xa,xb⟩:=x
     unfold iA at HGT
     generalize hll:l.length=ll0 at *
     generalize hcc:o.code.length=cn at *
     clear HK hx hrl hld hvq hgn hgb hgc hgx c0 c1 c2 hba hxa hg8 hb hll hcc hkd
     go_upto_region 16 with fail
     rw[<-hwa]
     clear hwa x0 x1 x2 xg
     go_wp2_with fail
     refine(HGT.out _).mono ?_
     rintro e5 w5 ⟨rfl,hb5⟩
     have HB5:=zh hb5
     obtain⟨z0,z1,z2⟩:=HXA.out w5 hb5
     clear hb5 y0 y1 y2 y3 HXA
     cases b with
     | false =>
      have HN:=zh (HST.out (fun q=>Bool.noConfusion (HB.out.2 q)) w5 HB5.out)
      clear HST HGO HB
      go_wp2_with fail
      go_roundg (ll0 - (k+1))
      case measure=>omega
      case rel=>exact⟨k+1,by omega,rfl,by go_num,HN⟩
     | true =>
      obtain⟨t,hta,ht4,g0,g1,g2,g3,g4,g5,g6,g7⟩:=HGO.out (HB.out.1 rfl) w5 HB5.out
      subst hta
      have HN:=zh g7
      have ht4':(t:Int)<4000:=by omega
      clear HST HGO HB g7
      go_wp2_with fail
      go_region_law (fail)
      all_goals
       go_wp2_with fail
       go_roundg (ll0 - (k+1))
       case measure=>omega
       case rel=>exact⟨k+1,by omega,rfl,by go_num,HN.out.on (zt _)⟩
    ·have hkt':¬(k:Int)<(l.length:Int):=by omega
     have hke:k=l.length:=by omega
     subst hke
     have HS3:Hid (S3 w wr n wb ob o.code.length pb lb eb nx 0 o (l.map (Vm.rl pl)) pl e sv uv vv nv (.slice pa o.procs.length pcap) (.slice (some ⟨cg,0,none⟩) o.code.length ccap) (.slice va l.length vc)):=S3.start HW.out HK.out
     have k0:wr.cell? ⟨wb,0,none⟩=some (.pointer (some ⟨ob,0,none⟩)):=(zc HS3.out.wk.wo.wk).trans rfl
     have k4:wr.cell? ⟨ob,4,none⟩=some (.slice pa o.procs.length pcap):=by
      have:=HS3.out.wk.wo.ok
      exact(zc this).trans rfl
     have lw:=zi k0
     have lo:=zi k4
     obtain⟨pn,hpn⟩:∃ pn,pn=o.procs.length:=⟨_,rfl⟩
     have HPN:=zh hpn
     have hpm:(pn:Int)<=9223372036854775807:=by
      have:=xE HW.out.pr
      unfold maxLen at this
      omega
     rw[<-hpn]at k4
     clear HK hpn
     go_wp2_with fail
     go_loopg [90] pn (fun kq vi wz=>∃ j:Nat,j<=pn/\kq=pn - j/\vi=.int .i64 (j:Int)/\Hid (S3 w wz n wb ob o.code.length pb lb eb nx j o (l.map (Vm.rl pl)) pl e sv uv vv nv (.slice pa o.procs.length pcap) (.slice (some ⟨cg,0,none⟩) o.code.length ccap) (.slice va l.length vc)))
     case atStart=>exact⟨0,by omega,by omega,rfl,HS3⟩
     case round =>
      clear k0 k4 lw lo HS3
      obtain⟨j,hjd,hjk,rfl,HJ⟩:=hrel
      have hwo:=HJ.out.wk.wo
      have hjn:j<=o.procs.length:=by have:=HPN.out;omega
      have k0:wr.cell? ⟨wb,0,none⟩=some (.pointer (some ⟨ob,0,none⟩)):=(zc hwo.wk).trans rfl
      have lw:=zi k0
      by_cases hjt:j<pn
      ·have hjt':(j:Int)<(pn:Int):=by omega
       have hjl:j<o.procs.length:=by have:=HPN.out;omega
       obtain⟨en,he⟩:∃ en,o.procs[j]?=some en:=⟨_,List.getElem?_eq_getElem hjl⟩
       obtain⟨gp,capp,curp,hpv,-,-,hcpp,-⟩:=yQ HW.out.pr (by omega)
       have hpa:pa=some ⟨gp,0,none⟩:=by injection hpv
       have hpc:pcap=capp:=by injection hpv
       subst hpa hpc
       clear hpv
       have hgp:gp<w.heap.size:=owns_lt HW.out.pr gp rfl
       have hwo2:Wo wr n wb ob (entN pl j o) sv uv vv nv (.slice (some ⟨gp,0,none⟩) (entN pl j o).procs.length pcap) (.slice (some ⟨cg,0,none⟩) o.code.length ccap):=by rw[yL];exact hwo
       have hat:=(uh (f:=pl) hjl).trans he
       obtain⟨l0',l1'⟩:=HO.out.ent en (List.mem_of_getElem? he)
       have hq1:=(HENT.out en (List.mem_of_getElem? he)).2
       obtain⟨t,ht⟩:=Int.eq_ofNat_of_zero_le l0'
       have htn:en.at'.toNat=t:=by omega
       rw[htn]at hq1
       obtain⟨w1',hw1'⟩:∃ w1',w1'=wr.alloc (.cells #[.int .i64 en.at',.int .i64 en.args,.int .i64 en.locals] 98):=⟨_,rfl⟩
       have hb1:Below wr.heap.size wr w1':=by rw[hw1'];exact zb _ _
       have hx1:w1'.heap[wr.heap.size]?=some (.cells #[.int .i64 en.at',.int .i64 en.args,.int .i64 en.locals] 98 (0,0)):=by rw[hw1'];exact zw wr _
       obtain⟨s0,s4,d0,d1,d2,-,sl,so,sg⟩:=hwo2.pw (Below.refl _ _) hat
       obtain⟨r0,r4,b0,b1,b2,rf,rl,ro,rg⟩:=hwo2.pw hb1 hat
       rw[yL,<-HPN.out]at s4 r4
       have hS1:=HJ.out.on hb1
       have p0:=hS1.pp.cell hq1
       have p1:=hS1.pp.lt
       have x0:w1'.cell? ⟨wr.heap.size,0,none⟩=some (.int .i64 (t:Int)):=by rw[<-ht];exact(zc hx1).trans rfl
       have xl:=zk hx1
       have HN:=zh (hS1.go hgp he)
       rw[htn]at HN
       have ht4:(t:Int)<4000:=by have:=HN4.out;omega
       have hcp':(pn:Int)<=pcap:=by have:=HPN.out;omega
       rw[ht]at hw1'
       rw[ht]at d0
       obtain⟨ea,eb',ec⟩:=en
       have ht:ea=(t:Int):=ht
       subst ht
       clear hwo hwo2 HJ he hat l0' l1' hq1 htn hb1 hx1 hgp hcpp hS1 k0 lw hjl hjn
       go_upto_region 22 with fail
       rw[<-hw1']
       clear hw1' s0 s4 d0 d1 d2 sl so sg
       go_region_law (fail)
       all_goals
        go_wp2_with fail
        go_roundg (pn - (j+1))
        case measure=>omega
        case rel=>exact⟨j+1,by omega,rfl,by go_num,HN.out.on (zt _)⟩
      ·have hjt':¬(j:Int)<(pn:Int):=by omega
       have hje:j=o.procs.length:=by have:=HPN.out;omega
       have HFIN:Hid (WK w (wr.setCell ⟨ob,6,none⟩ (.slice va l.length vc)) n wb ob (Vm.sqO o R aim) sv uv vv nv (.slice pa o.procs.length pcap) (.slice (some ⟨cg,0,none⟩) o.code.length ccap) (.slice va l.length vc)):=by
        show WK _ _ _ _ _ _ _ _ _ _ _ _ _
        rw[HSO.out]
        have:=HJ.out
        rw[hje]at this
        exact this.done HW.out HN.out
       have c6:wr.cell? ⟨ob,6,none⟩=some (.slice (some ⟨cg,0,none⟩) o.code.length ccap):=(zc hwo.ok).trans rfl
       have f6:∀ q,wr.frozen? ⟨ob,q,none⟩=false:=fun _=>zr hwo.ok
       have lo:=zi c6
       have l0:wr.cell? ⟨lb,0,none⟩=some (.slice va l.length vc):=(zc HJ.out.ld.lk).trans rfl
       have ll:=zi l0
       clear hwo HJ hje hjn
       go_wp2_with fail
       go_region_law (fail)
       all_goals
        go_wp2_with fail
        exact ze rfl rfl ⟨rfl,_,HFIN.out.on (zt _)⟩
theorem Wo.to {w:World}{n wb ob:Nat}{o p:O}{sv uv vv nv pv cv:Value}(h:Wo w n wb ob o sv uv vv nv pv cv) (h1:p.name=o.name) (h2:p.procs=o.procs) (h3:p.code=o.code):Wo w n wb ob p sv uv vv nv pv cv:=⟨h.nw,h.no,h.wk,by rw[h1];exact h.ok,by rw[h2];exact h.pr,by rw[h3];exact h.cr⟩
structure Rd (w w':World) (n wb ob:Nat) (o p:O) (sv uv vv nv pv cv cv':Value):Prop where
 st:Vm.Stp o p
 wk:WK w w' n wb ob p sv uv vv nv pv cv cv'
theorem Rd.trans {w w1 w2:World}{n wb ob:Nat}{o p q:O}{sv uv vv nv pv cv c1 c2:Value}(h:Rd w w1 n wb ob o p sv uv vv nv pv cv c1) (k:Rd w1 w2 n wb ob p q sv uv vv nv pv c1 c2):Rd w w2 n wb ob o q sv uv vv nv pv cv c2:=⟨h.st.trans k.st,k.wk.wo,h.wk.kp.trans k.wk.kp⟩
structure Ask (w:World) (n wb ob:Nat) (o:O) (sv uv vv nv pv cv:Value):Prop where
 r:Vm.Rg o
 p:o.procs.length<=10
 wo:Wo w n wb ob o sv uv vv nv pv cv
 n:n<=w.heap.size
 m:Mk8 w
theorem Ask.next {w w':World}{n wb ob:Nat}{o p:O}{sv uv vv nv pv cv cv':Value}(h:Ask w n wb ob o sv uv vv nv pv cv) (hG:1<n) (k:Rd w w' n wb ob o p sv uv vv nv pv cv cv'):Ask w' n wb ob p sv uv vv nv pv cv':=⟨k.st.rg,by rw[k.st.eq.pl];exact h.p,k.wk.wo,Nat.le_trans h.n k.wk.kp.size,h.m.below (k.wk.below h.wo h.n) hG⟩
def RdP (w:World) (n wb ob:Nat) (o:O) (sv uv vv nv pv cv:Value) (e:Ending) (w':World):Prop:=e=.returned (.tuple #[])/\∃ p cv',Rd w w' n wb ob o p sv uv vv nv pv cv cv'
theorem aim_r {w:World}{n wb ob:Nat}{o:O}{sv uv vv nv pv cv:Value}(h:Ask w n wb ob o sv uv vv nv pv cv):Calls Tryz.prog 52 #[.pointer (some ⟨wb,0,none⟩)] w (RdP w n wb ob o sv uv vv nv pv cv):=by
 refine(aim_any (o:=Vm.nu o) (Vm.rg_okc h.r).1 (h.wo.to rfl rfl rfl)).mono ?_
 rintro e w' ⟨rfl,cv',hk⟩
 have hw:=hk.wo
 rw[Vm.aimO_nu]at hw
 exact⟨rfl,_,cv',Vm.aim_stp h.r,hw.to rfl rfl rfl,hk.kp⟩
theorem share_r {w:World}{n wb ob:Nat}{o:O}{sv uv vv nv pv cv:Value}(h:Ask w n wb ob o sv uv vv nv pv cv) (hG:1<n):Calls Tryz.prog 55 #[.pointer (some ⟨wb,0,none⟩)] w (RdP w n wb ob o sv uv vv nv pv cv):=by
 refine(share_any h.r h.wo h.n h.m hG).mono ?_
 rintro e w' ⟨rfl,cv',hk⟩
 exact⟨rfl,_,cv',Vm.sh_stp h.r,hk⟩
theorem xU {w w1:World}{n wb ob ab:Nat}{o:O}{R aim:Nat->Bool}{sv uv vv nv pv cv:Value}(h:Ask w n wb ob o sv uv vv nv pv cv) (hG:1<n) (hb:Below w.heap.size w w1) (hM:Vm.Mkd o R aim) (hmk:Mks w1 ab R aim):Calls Tryz.prog 53 #[.pointer (some ⟨wb,0,none⟩),.pointer (some ⟨ab,0,none⟩)] w1 (fun e w'=>e=.returned (.tuple #[])/\∃ p cv',Rd w w' n wb ob o p sv uv vv nv pv cv cv'):=by
 refine(vM h.r (h.wo.on hb) (Nat.le_trans h.n hb.size) (h.m.on hb) hG hM hmk).mono ?_
 rintro e w' ⟨rfl,cv',hk⟩
 exact⟨rfl,_,cv',Vm.sq_stp h.r hM,hk.wo,((Kpt.refl w ob pv cv).on hb).trans hk.kp⟩
theorem Wo.cells {w:World}{n wb ob:Nat}{o:O}{sv uv vv nv pv cv:Value}(h:Wo w n wb ob o sv uv vv nv pv cv):∃ a c,w.cell? ⟨wb,0,none⟩=some (.pointer (some ⟨ob,0,none⟩))/\w.cell? ⟨ob,6,none⟩=some (.slice a o.code.length c)/\wb<w.heap.size/\ob<w.heap.size:=by
 obtain⟨a,c,hc⟩:=zy h.cr
 have k6:w.cell? ⟨ob,6,none⟩=some cv:=(zc h.ok).trans rfl
 rw[hc]at k6
 exact⟨a,c,(zc h.wk).trans rfl,k6,zk h.wk,zk h.ok⟩
theorem round_any {w:World}{n wb ob:Nat}{o:O}{sv uv vv nv pv cv:Value}(h:Ask w n wb ob o sv uv vv nv pv cv) (hG:1<n):Calls Tryz.prog 24 #[.pointer (some ⟨wb,0,none⟩)] w (RdP w n wb ob o sv uv vv nv pv cv):=by
 have HA:=zh h
 obtain⟨ca,cc,k0,k6,lw,lo⟩:=h.wo.cells
 have HAIM:=zh (aim_r h)
 generalize o.code.length=ln at *
 clear h
 go_enter Tryz.func24,Tryz.ntmps24
 go_wp2_with fail
 refine HAIM.out.mono ?_
 rintro e w1 ⟨rfl,p1,c1,hr1⟩
 have hA1:=HA.out.next hG hr1
 have HR1:=zh hr1
 have HA1:=zh hA1
 have HMK1:=zh (xh hA1.r hA1.p hA1.wo)
 clear k0 k6 lw lo hr1 hA1 HAIM
 go_wp2_with fail
 refine HMK1.out.mono ?_
 rintro e w2 ⟨R,aim,ab,rfl,hM,hmk,-,hb2⟩
 have HSQ:=zh (xU HA1.out hG hb2 hM hmk)
 clear hM hmk hb2 HMK1
 go_wp2_with fail
 refine HSQ.out.mono ?_
 rintro e w3 ⟨rfl,p3,c3,hr3⟩
 have hA3:=HA1.out.next hG hr3
 have HR3:=zh (HR1.out.trans hr3)
 have HA3:=zh hA3
 have HSH:=zh (share_r hA3 hG)
 obtain⟨ca3,cc3,k0,k6,lw,lo⟩:=hA3.wo.cells
 clear hr3 hA3 HSQ
 generalize p3.code.length=ln3 at *
 by_cases hl:ln3=ln
 ·have hl':(ln3:Int)=(ln:Int):=by rw[hl]
  have hl2:((ln3:Int) == (ln:Int))=true:=by rw[hl];exact beq_self_eq_true _
  clear hl hl'
  go_wp2_with fail
  refine HSH.out.mono ?_
  rintro e w4 ⟨rfl,p4,c4,hr4⟩
  have hA4:=HA3.out.next hG hr4
  have HR4:=zh (HR3.out.trans hr4)
  have HA4:=zh hA4
  have HMK4:=zh (xh hA4.r hA4.p hA4.wo)
  clear k0 k6 lw lo hr4 hA4 HSH
  go_wp2_with fail
  refine HMK4.out.mono ?_
  rintro e w5 ⟨R5,aim5,ab5,rfl,hM5,hmk5,-,hb5⟩
  have HSQ5:=zh (xU HA4.out hG hb5 hM5 hmk5)
  clear hM5 hmk5 hb5 HMK4
  go_wp2_with fail
  refine HSQ5.out.mono ?_
  rintro e w6 ⟨rfl,p6,c6,hr6⟩
  have HR6:=zh (HR4.out.trans hr6)
  clear hr6 HSQ5
  go_wp2_with fail
  exact ze rfl rfl ⟨rfl,_,_,HR6.out⟩
 ·have hl2:((ln3:Int) == (ln:Int))=false:=beq_false_of_ne (by omega)
  have hl':¬(ln3:Int)=(ln:Int):=by omega
  go_wp2_with fail
  exact ze rfl rfl ⟨rfl,_,_,HR3.out⟩
def CloneP (w:World) (e:TypeId) (k n:Nat) (cs:List Value) (ed:Ending) (w':World):Prop:=∃ v',ed=.returned v'/\Below w.heap.size w w'/\w'.ownsRow w.heap.size e k v' n cs
theorem Tryz.infoCS:(Tryz.prog.info? 57).map (fun i=>(i.zero,i.size,i.bytes))=some (some (.agg #[.string ⟨#[]⟩,.int .i64 0,.int .i64 0]),3,32):=by kernel_rfl
theorem Tryz.eqNilS (n c:Nat) (w:World):(binOp .eql 33 (.slice none n c) (.slice none 0 0)).run Tryz.prog w=.ok (.bool true) w:=by kernel_rfl
theorem Tryz.eqSomeS (a:Addr) (n c:Nat) (w:World):(binOp .eql 33 (.slice (some a) n c) (.slice none 0 0)).run Tryz.prog w=.ok (.bool false) w:=by kernel_rfl
theorem cloneS {w:World}{a:Option Addr}{n c:Nat}{cs:List Value}(h:Sl w (.slice a n c) 3 n cs) (h1:∀ u∈cs,u.oneCell'=true) (hn:n<=1000000):Calls Tryz.prog 46 #[.slice a n c] w (CloneP w 57 3 n cs):=by
 have hq0:=Tryz.eqNilS
 have hq1:=Tryz.eqSomeS
 obtain⟨i0,hi,hz0,hz1,hz2⟩:=info_parts Tryz.infoCS
 obtain⟨a',c',e1,hl,hc⟩:=h
 cases e1
 cases a with
 | none =>
  have hcs:cs=[]:=by
   cases cs with
   | nil=>rfl
   | cons u r =>
    obtain⟨b,o,q,_⟩:=hc 0 u rfl
    cases q
  subst hcs
  have hn0:n=0:=by simp at hl;omega
  subst hn0
  clear hc hl h1
  go_enter Tryz.func46,Tryz.ntmps46
  go_wp2_with fail
  go_ret
  exact⟨_,rfl,Below.refl _ _,World.ownsRow_nil _ _ _ _⟩
 | some ad =>
  have hal:Below w.heap.size w (w.alloc (.cells #[] 57)):=zb _ _
  have hown:(w.alloc (.cells #[] 57)).ownsRow w.heap.size 57 3 (.slice (some ⟨w.heap.size,0,none⟩) 0 0) 0 [] :=
   ⟨rfl,Or.inr ⟨w.heap.size,0,#[],rfl,Nat.le_refl _,zw _ _,Nat.le_refl _,by unfold maxLen;omega,rfl,rfl⟩⟩
  have hnews:∀ j u,cs[j]?=some u->(w.alloc (.cells #[] 57)).cell? (ad.add j)=some u:=by
   intro j u hj
   obtain⟨b,o,q,hu⟩:=hc j u hj
   cases q
   rw[Addr.add_lit]
   exact yE hu _
  have HO:=zh hown
  have HAL:=zh hal
  have HNW:=zh hnews
  have HL:=zh hl
  have H1:=zh h1
  clear hown hal hnews hl h1 hc
  go_enter Tryz.func46,Tryz.ntmps46
  go_wp2_with (at_builtin;refine zF _ rfl _ _ 33 rfl w.heap.size 57 i0 (.agg #[.string ⟨#[]⟩,.int .i64 0,.int .i64 0]) 3 32 Tryz.underlying33 hi hz0 hz1 hz2 rfl (by decide) _ 0 [] rfl HO.out ad n c cs rfl HL.out HNW.out H1.out (by unfold maxLen;omega) (by omega) (by simp) ?_)
  intro v3 w3 h3 g3 _
  have HB3:Hid (Below w.heap.size w w3):=HAL.out.trans ((Below.refl w.heap.size _).grown g3 (by simp) (fun k hk=>zG HO.out k hk))
  have HO3:Hid (w3.ownsRow w.heap.size 57 3 v3 n cs):=by unfold Hid;simpa using h3
  clear h3 g3
  go_wp2_with fail
  go_ret
  exact⟨_,rfl,HB3.out,HO3.out⟩
theorem Tryz.infoCU:(Tryz.prog.info? 65).map (fun i=>(i.zero,i.size,i.bytes))=some (some (.agg #[.string ⟨#[]⟩,.string ⟨#[]⟩,.slice none 0 0]),3,56):=by kernel_rfl
theorem Tryz.eqNilU (n c:Nat) (w:World):(binOp .eql 34 (.slice none n c) (.slice none 0 0)).run Tryz.prog w=.ok (.bool true) w:=by kernel_rfl
theorem Tryz.eqSomeU (a:Addr) (n c:Nat) (w:World):(binOp .eql 34 (.slice (some a) n c) (.slice none 0 0)).run Tryz.prog w=.ok (.bool false) w:=by kernel_rfl
theorem cloneU {w:World}{a:Option Addr}{n c:Nat}{cs:List Value}(h:Sl w (.slice a n c) 3 n cs) (h1:∀ u∈cs,u.oneCell'=true) (hn:n<=1000000):Calls Tryz.prog 47 #[.slice a n c] w (CloneP w 65 3 n cs):=by
 have hq0:=Tryz.eqNilU
 have hq1:=Tryz.eqSomeU
 obtain⟨i0,hi,hz0,hz1,hz2⟩:=info_parts Tryz.infoCU
 obtain⟨a',c',e1,hl,hc⟩:=h
 cases e1
 cases a with
 | none =>
  have hcs:cs=[]:=by
   cases cs with
   | nil=>rfl
   | cons u r =>
    obtain⟨b,o,q,_⟩:=hc 0 u rfl
    cases q
  subst hcs
  have hn0:n=0:=by simp at hl;omega
  subst hn0
  clear hc hl h1
  go_enter Tryz.func47,Tryz.ntmps47
  go_wp2_with fail
  go_ret
  exact⟨_,rfl,Below.refl _ _,World.ownsRow_nil _ _ _ _⟩
 | some ad =>
  have hal:Below w.heap.size w (w.alloc (.cells #[] 65)):=zb _ _
  have hown:(w.alloc (.cells #[] 65)).ownsRow w.heap.size 65 3 (.slice (some ⟨w.heap.size,0,none⟩) 0 0) 0 [] :=
   ⟨rfl,Or.inr ⟨w.heap.size,0,#[],rfl,Nat.le_refl _,zw _ _,Nat.le_refl _,by unfold maxLen;omega,rfl,rfl⟩⟩
  have hnews:∀ j u,cs[j]?=some u->(w.alloc (.cells #[] 65)).cell? (ad.add j)=some u:=by
   intro j u hj
   obtain⟨b,o,q,hu⟩:=hc j u hj
   cases q
   rw[Addr.add_lit]
   exact yE hu _
  have HO:=zh hown
  have HAL:=zh hal
  have HNW:=zh hnews
  have HL:=zh hl
  have H1:=zh h1
  clear hown hal hnews hl h1 hc
  go_enter Tryz.func47,Tryz.ntmps47
  go_wp2_with (at_builtin;refine zF _ rfl _ _ 34 rfl w.heap.size 65 i0 (.agg #[.string ⟨#[]⟩,.string ⟨#[]⟩,.slice none 0 0]) 3 56 Tryz.underlying34 hi hz0 hz1 hz2 rfl (by decide) _ 0 [] rfl HO.out ad n c cs rfl HL.out HNW.out H1.out (by unfold maxLen;omega) (by omega) (by simp) ?_)
  intro v3 w3 h3 g3 _
  have HB3:Hid (Below w.heap.size w w3):=HAL.out.trans ((Below.refl w.heap.size _).grown g3 (by simp) (fun k hk=>zG HO.out k hk))
  have HO3:Hid (w3.ownsRow w.heap.size 65 3 v3 n cs):=by unfold Hid;simpa using h3
  clear h3 g3
  go_wp2_with fail
  go_ret
  exact⟨_,rfl,HB3.out,HO3.out⟩
theorem Tryz.infoCG:(Tryz.prog.info? 61).map (fun i=>(i.zero,i.size,i.bytes))=some (some (.agg #[.string ⟨#[]⟩,.int .i64 0,.int .i64 0,.bool false]),4,40):=by kernel_rfl
theorem Tryz.eqNilG (n c:Nat) (w:World):(binOp .eql 35 (.slice none n c) (.slice none 0 0)).run Tryz.prog w=.ok (.bool true) w:=by kernel_rfl
theorem Tryz.eqSomeG (a:Addr) (n c:Nat) (w:World):(binOp .eql 35 (.slice (some a) n c) (.slice none 0 0)).run Tryz.prog w=.ok (.bool false) w:=by kernel_rfl
theorem cloneG {w:World}{a:Option Addr}{n c:Nat}{cs:List Value}(h:Sl w (.slice a n c) 4 n cs) (h1:∀ u∈cs,u.oneCell'=true) (hn:n<=1000000):Calls Tryz.prog 48 #[.slice a n c] w (CloneP w 61 4 n cs):=by
 have hq0:=Tryz.eqNilG
 have hq1:=Tryz.eqSomeG
 obtain⟨i0,hi,hz0,hz1,hz2⟩:=info_parts Tryz.infoCG
 obtain⟨a',c',e1,hl,hc⟩:=h
 cases e1
 cases a with
 | none =>
  have hcs:cs=[]:=by
   cases cs with
   | nil=>rfl
   | cons u r =>
    obtain⟨b,o,q,_⟩:=hc 0 u rfl
    cases q
  subst hcs
  have hn0:n=0:=by simp at hl;omega
  subst hn0
  clear hc hl h1
  go_enter Tryz.func48,Tryz.ntmps48
  go_wp2_with fail
  go_ret
  exact⟨_,rfl,Below.refl _ _,World.ownsRow_nil _ _ _ _⟩
 | some ad =>
  have hal:Below w.heap.size w (w.alloc (.cells #[] 61)):=zb _ _
  have hown:(w.alloc (.cells #[] 61)).ownsRow w.heap.size 61 4 (.slice (some ⟨w.heap.size,0,none⟩) 0 0) 0 [] :=
   ⟨rfl,Or.inr ⟨w.heap.size,0,#[],rfl,Nat.le_refl _,zw _ _,Nat.le_refl _,by unfold maxLen;omega,rfl,rfl⟩⟩
  have hnews:∀ j u,cs[j]?=some u->(w.alloc (.cells #[] 61)).cell? (ad.add j)=some u:=by
   intro j u hj
   obtain⟨b,o,q,hu⟩:=hc j u hj
   cases q
   rw[Addr.add_lit]
   exact yE hu _
  have HO:=zh hown
  have HAL:=zh hal
  have HNW:=zh hnews
  have HL:=zh hl
  have H1:=zh h1
  clear hown hal hnews hl h1 hc
  go_enter Tryz.func48,Tryz.ntmps48
  go_wp2_with (at_builtin;refine zF _ rfl _ _ 35 rfl w.heap.size 61 i0 (.agg #[.string ⟨#[]⟩,.int .i64 0,.int .i64 0,.bool false]) 4 40 Tryz.underlying35 hi hz0 hz1 hz2 rfl (by decide) _ 0 [] rfl HO.out ad n c cs rfl HL.out HNW.out H1.out (by unfold maxLen;omega) (by omega) (by simp) ?_)
  intro v3 w3 h3 g3 _
  have HB3:Hid (Below w.heap.size w w3):=HAL.out.trans ((Below.refl w.heap.size _).grown g3 (by simp) (fun k hk=>zG HO.out k hk))
  have HO3:Hid (w3.ownsRow w.heap.size 61 4 v3 n cs):=by unfold Hid;simpa using h3
  clear h3 g3
  go_wp2_with fail
  go_ret
  exact⟨_,rfl,HB3.out,HO3.out⟩
theorem Tryz.infoCE:(Tryz.prog.info? 98).map (fun i=>(i.zero,i.size,i.bytes))=some (some (.agg #[.int .i64 0,.int .i64 0,.int .i64 0]),3,24):=by kernel_rfl
theorem Tryz.eqNilE (n c:Nat) (w:World):(binOp .eql 36 (.slice none n c) (.slice none 0 0)).run Tryz.prog w=.ok (.bool true) w:=by kernel_rfl
theorem Tryz.eqSomeE (a:Addr) (n c:Nat) (w:World):(binOp .eql 36 (.slice (some a) n c) (.slice none 0 0)).run Tryz.prog w=.ok (.bool false) w:=by kernel_rfl
theorem cloneE {w:World}{a:Option Addr}{n c:Nat}{cs:List Value}(h:Sl w (.slice a n c) 3 n cs) (h1:∀ u∈cs,u.oneCell'=true) (hn:n<=1000000):Calls Tryz.prog 49 #[.slice a n c] w (CloneP w 98 3 n cs):=by
 have hq0:=Tryz.eqNilE
 have hq1:=Tryz.eqSomeE
 obtain⟨i0,hi,hz0,hz1,hz2⟩:=info_parts Tryz.infoCE
 obtain⟨a',c',e1,hl,hc⟩:=h
 cases e1
 cases a with
 | none =>
  have hcs:cs=[]:=by
   cases cs with
   | nil=>rfl
   | cons u r =>
    obtain⟨b,o,q,_⟩:=hc 0 u rfl
    cases q
  subst hcs
  have hn0:n=0:=by simp at hl;omega
  subst hn0
  clear hc hl h1
  go_enter Tryz.func49,Tryz.ntmps49
  go_wp2_with fail
  go_ret
  exact⟨_,rfl,Below.refl _ _,World.ownsRow_nil _ _ _ _⟩
 | some ad =>
  have hal:Below w.heap.size w (w.alloc (.cells #[] 98)):=zb _ _
  have hown:(w.alloc (.cells #[] 98)).ownsRow w.heap.size 98 3 (.slice (some ⟨w.heap.size,0,none⟩) 0 0) 0 [] :=
   ⟨rfl,Or.inr ⟨w.heap.size,0,#[],rfl,Nat.le_refl _,zw _ _,Nat.le_refl _,by unfold maxLen;omega,rfl,rfl⟩⟩
  have hnews:∀ j u,cs[j]?=some u->(w.alloc (.cells #[] 98)).cell? (ad.add j)=some u:=by
   intro j u hj
   obtain⟨b,o,q,hu⟩:=hc j u hj
   cases q
   rw[Addr.add_lit]
   exact yE hu _
  have HO:=zh hown
  have HAL:=zh hal
  have HNW:=zh hnews
  have HL:=zh hl
  have H1:=zh h1
  clear hown hal hnews hl h1 hc
  go_enter Tryz.func49,Tryz.ntmps49
  go_wp2_with (at_builtin;refine zF _ rfl _ _ 36 rfl w.heap.size 98 i0 (.agg #[.int .i64 0,.int .i64 0,.int .i64 0]) 3 24 Tryz.underlying36 hi hz0 hz1 hz2 rfl (by decide) _ 0 [] rfl HO.out ad n c cs rfl HL.out HNW.out H1.out (by unfold maxLen;omega) (by omega) (by simp) ?_)
  intro v3 w3 h3 g3 _
  have HB3:Hid (Below w.heap.size w w3):=HAL.out.trans ((Below.refl w.heap.size _).grown g3 (by simp) (fun k hk=>zG HO.out k hk))
  have HO3:Hid (w3.ownsRow w.heap.size 98 3 v3 n cs):=by unfold Hid;simpa using h3
  clear h3 g3
  go_wp2_with fail
  go_ret
  exact⟨_,rfl,HB3.out,HO3.out⟩
theorem Tryz.infoCT:(Tryz.prog.info? 9).map (fun i=>(i.zero,i.size,i.bytes))=some (some (.string ⟨#[]⟩),1,16):=by kernel_rfl
theorem Tryz.eqNilT (n c:Nat) (w:World):(binOp .eql 37 (.slice none n c) (.slice none 0 0)).run Tryz.prog w=.ok (.bool true) w:=by kernel_rfl
theorem Tryz.eqSomeT (a:Addr) (n c:Nat) (w:World):(binOp .eql 37 (.slice (some a) n c) (.slice none 0 0)).run Tryz.prog w=.ok (.bool false) w:=by kernel_rfl
theorem cloneT {w:World}{a:Option Addr}{n c:Nat}{cs:List Value}(h:Sl w (.slice a n c) 1 n cs) (h1:∀ u∈cs,u.oneCell'=true) (hn:n<=1000000):Calls Tryz.prog 50 #[.slice a n c] w (CloneP w 9 1 n cs):=by
 have hq0:=Tryz.eqNilT
 have hq1:=Tryz.eqSomeT
 obtain⟨i0,hi,hz0,hz1,hz2⟩:=info_parts Tryz.infoCT
 obtain⟨a',c',e1,hl,hc⟩:=h
 cases e1
 cases a with
 | none =>
  have hcs:cs=[]:=by
   cases cs with
   | nil=>rfl
   | cons u r =>
    obtain⟨b,o,q,_⟩:=hc 0 u rfl
    cases q
  subst hcs
  have hn0:n=0:=by simp at hl;omega
  subst hn0
  clear hc hl h1
  go_enter Tryz.func50,Tryz.ntmps50
  go_wp2_with fail
  go_ret
  exact⟨_,rfl,Below.refl _ _,World.ownsRow_nil _ _ _ _⟩
 | some ad =>
  have hal:Below w.heap.size w (w.alloc (.cells #[] 9)):=zb _ _
  have hown:(w.alloc (.cells #[] 9)).ownsRow w.heap.size 9 1 (.slice (some ⟨w.heap.size,0,none⟩) 0 0) 0 [] :=
   ⟨rfl,Or.inr ⟨w.heap.size,0,#[],rfl,Nat.le_refl _,zw _ _,Nat.le_refl _,by unfold maxLen;omega,rfl,rfl⟩⟩
  have hnews:∀ j u,cs[j]?=some u->(w.alloc (.cells #[] 9)).cell? (ad.add j)=some u:=by
   intro j u hj
   obtain⟨b,o,q,hu⟩:=hc j u hj
   cases q
   rw[Addr.add_lit]
   exact yE hu _
  have HO:=zh hown
  have HAL:=zh hal
  have HNW:=zh hnews
  have HL:=zh hl
  have H1:=zh h1
  clear hown hal hnews hl h1 hc
  go_enter Tryz.func50,Tryz.ntmps50
  go_wp2_with (at_builtin;refine zF _ rfl _ _ 37 rfl w.heap.size 9 i0 (.string ⟨#[]⟩) 1 16 Tryz.underlying37 hi hz0 hz1 hz2 rfl (by decide) _ 0 [] rfl HO.out ad n c cs rfl HL.out HNW.out H1.out (by unfold maxLen;omega) (by omega) (by simp) ?_)
  intro v3 w3 h3 g3 _
  have HB3:Hid (Below w.heap.size w w3):=HAL.out.trans ((Below.refl w.heap.size _).grown g3 (by simp) (fun k hk=>zG HO.out k hk))
  have HO3:Hid (w3.ownsRow w.heap.size 9 1 v3 n cs):=by unfold Hid;simpa using h3
  clear h3 g3
  go_wp2_with fail
  go_ret
  exact⟨_,rfl,HB3.out,HO3.out⟩
theorem Tryz.infoCI:(Tryz.prog.info? 68).map (fun i=>(i.zero,i.size,i.bytes))=some (some (.agg #[.int .i64 0,.int .i64 0,.int .i64 0]),3,24):=by kernel_rfl
theorem Tryz.eqNilI (n c:Nat) (w:World):(binOp .eql 38 (.slice none n c) (.slice none 0 0)).run Tryz.prog w=.ok (.bool true) w:=by kernel_rfl
theorem Tryz.eqSomeI (a:Addr) (n c:Nat) (w:World):(binOp .eql 38 (.slice (some a) n c) (.slice none 0 0)).run Tryz.prog w=.ok (.bool false) w:=by kernel_rfl
theorem cloneI {w:World}{a:Option Addr}{n c:Nat}{cs:List Value}(h:Sl w (.slice a n c) 3 n cs) (h1:∀ u∈cs,u.oneCell'=true) (hn:n<=1000000):Calls Tryz.prog 51 #[.slice a n c] w (CloneP w 68 3 n cs):=by
 have hq0:=Tryz.eqNilI
 have hq1:=Tryz.eqSomeI
 obtain⟨i0,hi,hz0,hz1,hz2⟩:=info_parts Tryz.infoCI
 obtain⟨a',c',e1,hl,hc⟩:=h
 cases e1
 cases a with
 | none =>
  have hcs:cs=[]:=by
   cases cs with
   | nil=>rfl
   | cons u r =>
    obtain⟨b,o,q,_⟩:=hc 0 u rfl
    cases q
  subst hcs
  have hn0:n=0:=by simp at hl;omega
  subst hn0
  clear hc hl h1
  go_enter Tryz.func51,Tryz.ntmps51
  go_wp2_with fail
  go_ret
  exact⟨_,rfl,Below.refl _ _,World.ownsRow_nil _ _ _ _⟩
 | some ad =>
  have hal:Below w.heap.size w (w.alloc (.cells #[] 68)):=zb _ _
  have hown:(w.alloc (.cells #[] 68)).ownsRow w.heap.size 68 3 (.slice (some ⟨w.heap.size,0,none⟩) 0 0) 0 [] :=
   ⟨rfl,Or.inr ⟨w.heap.size,0,#[],rfl,Nat.le_refl _,zw _ _,Nat.le_refl _,by unfold maxLen;omega,rfl,rfl⟩⟩
  have hnews:∀ j u,cs[j]?=some u->(w.alloc (.cells #[] 68)).cell? (ad.add j)=some u:=by
   intro j u hj
   obtain⟨b,o,q,hu⟩:=hc j u hj
   cases q
   rw[Addr.add_lit]
   exact yE hu _
  have HO:=zh hown
  have HAL:=zh hal
  have HNW:=zh hnews
  have HL:=zh hl
  have H1:=zh h1
  clear hown hal hnews hl h1 hc
  go_enter Tryz.func51,Tryz.ntmps51
  go_wp2_with (at_builtin;refine zF _ rfl _ _ 38 rfl w.heap.size 68 i0 (.agg #[.int .i64 0,.int .i64 0,.int .i64 0]) 3 24 Tryz.underlying38 hi hz0 hz1 hz2 rfl (by decide) _ 0 [] rfl HO.out ad n c cs rfl HL.out HNW.out H1.out (by unfold maxLen;omega) (by omega) (by simp) ?_)
  intro v3 w3 h3 g3 _
  have HB3:Hid (Below w.heap.size w w3):=HAL.out.trans ((Below.refl w.heap.size _).grown g3 (by simp) (fun k hk=>zG HO.out k hk))
  have HO3:Hid (w3.ownsRow w.heap.size 68 3 v3 n cs):=by unfold Hid;simpa using h3
  clear h3 g3
  go_wp2_with fail
  go_ret
  exact⟨_,rfl,HB3.out,HO3.out⟩
abbrev UP:=Ob.Us× Value
def pcU (x:UP):List Value:=[.string (bs x.1.name),.string (bs x.1.need),x.2]
theorem jX {w:World}:∀(l:List Ob.Us) (cs:List Value),RepN w l cs->∃ P:List UP,P.map (·.1)=l/\cs=cellsOf pcU P/\∀ x∈P,Sl w x.2 1 x.1.names.length (cellsOf stC x.1.names)
 | [],cs,h=>⟨[],rfl,h,fun x hx=>by cases hx⟩
 | u :: l,cs,h=>by
  obtain⟨nv,cs',h1,h2,h3⟩:=h
  obtain⟨P,p1,p2,p3⟩:=jX l cs' h3
  refine⟨(u,nv) :: P,by rw[List.map_cons,p1],by rw[h1,p2];rfl,fun x hx=>?_⟩
  rcases List.mem_cons.1 hx with rfl|hx
  ·exact h2
  ·exact p3 x hx
theorem pcU_set (P:List UP) (i:Nat) (x:UP) (v:Value) (h:P[i]?=some x):cellsOf pcU (P.set i (x.1,v))=(cellsOf pcU P).set (i * 3+2) v:=by
 induction P generalizing i with
 | nil=>simp at h
 | cons y r ih =>
  cases i with
  | zero =>
   simp at h
   subst h
   rfl
  | succ i =>
   have h:r[i]?=some x:=by simpa using h
   show pcU y++cellsOf pcU (r.set i _)=_
   rw[ih i h,show (i+1) * 3+2=i * 3+2+3 by omega]
   rfl
theorem pcU_in {P:List UP}{i:Nat}{x:UP}(h:P[i]?=some x):(cellsOf pcU P)[i * 3]?=some (.string (bs x.1.name))/\(cellsOf pcU P)[i * 3+1]?=some (.string (bs x.1.need))/\(cellsOf pcU P)[i * 3+2]?=some x.2:=by
 induction P generalizing i with
 | nil=>simp at h
 | cons y r ih =>
  cases i with
  | zero =>
   simp at h
   subst h
   exact⟨rfl,rfl,rfl⟩
  | succ i =>
   have h:r[i]?=some x:=by simpa using h
   obtain⟨a,b,c⟩:=ih h
   have e0:(i+1) * 3=i * 3+3:=by omega
   have e1:(i+1) * 3+1=i * 3+1+3:=by omega
   have e2:(i+1) * 3+2=i * 3+2+3:=by omega
   rw[e2,e1,e0]
   exact⟨a,b,c⟩
structure Co (w wr:World) (ob:Nat) (o:O) (sv uv vv nv pv cv:Value) (P:List UP) (i:Nat):Prop where
 be:Below w.heap.size w wr
 no:w.heap.size<=ob
 ok:wr.heap[ob]?=some (.cells #[.string (bs o.name),sv,uv,vv,pv,nv,cv] 40 (0,0))
 sr:wr.ownsRow w.heap.size 57 3 sv o.syms.length (cellsOf smC o.syms)
 ur:wr.ownsRow w.heap.size 65 3 uv o.uses.length (cellsOf pcU P)
 vr:wr.ownsRow w.heap.size 61 4 vv o.vars.length (cellsOf glC o.vars)
 pr:wr.ownsRow w.heap.size 98 3 pv o.procs.length (cellsOf enC o.procs)
 nr:wr.ownsRow w.heap.size 9 1 nv o.names.length (cellsOf stC o.names)
 cr:wr.ownsRow w.heap.size 68 3 cv o.code.length (cellsOf inC o.code)
 pm:P.map (·.1)=o.uses
 po:∀ j x,j<i->P[j]?=some x->wr.ownsRow w.heap.size 9 1 x.2 x.1.names.length (cellsOf stC x.1.names)
 ps:∀ j x,i<=j->P[j]?=some x->Sl w x.2 1 x.1.names.length (cellsOf stC x.1.names)
theorem Co.on {w wr w':World}{ob:Nat}{o:O}{sv uv vv nv pv cv:Value}{P:List UP}{i:Nat}(h:Co w wr ob o sv uv vv nv pv cv P i) (k:Below wr.heap.size wr w'):Co w w' ob o sv uv vv nv pv cv P i:=⟨h.be.trans (k.mono h.be.size),h.no,(k.block _ (zk h.ok)).trans h.ok,zD h.sr k,zD h.ur k,zD h.vr k,zD h.pr k,zD h.nr k,zD h.cr k,h.pm,fun j x hj hx=>zD (h.po j x hj hx) k,h.ps⟩
theorem Co.go {w wr:World}{ob g cap:Nat}{o:O}{sv vv nv pv cv v:Value}{P:List UP}{i:Nat}{x:UP}(h:Co w wr ob o sv (.slice (some ⟨g,0,none⟩) o.uses.length cap) vv nv pv cv P i) (hx:P[i]?=some x) (hv:wr.ownsRow w.heap.size 9 1 v x.1.names.length (cellsOf stC x.1.names)):Co w (wr.setCell ⟨g,i * 3+2,none⟩ v) ob o sv (.slice (some ⟨g,0,none⟩) o.uses.length cap) vv nv pv cv (P.set i (x.1,v)) (i+1):=by
 have hg:(Value.slice (some ⟨g,0,none⟩) o.uses.length cap).ownBlock=some g:=rfl
 have k:∀ b,b≠g->(wr.setCell ⟨g,i * 3+2,none⟩ v).heap[b]?=wr.heap[b]?:=fun b hb=>Below.heap_setCell _ _ _ _ (by exact hb)
 have far:∀ {e size n:Nat} {u:Value} {xs:List Value},wr.ownsRow w.heap.size e size u n xs->65≠e->(wr.setCell ⟨g,i * 3+2,none⟩ v).ownsRow w.heap.size e size u n xs:=fun hr he=>z7 hr fun b _ _ hb=>k b fun q=>yF h.ur hr he hg (q ▸ hb)
 have hob:ob≠g:=fun q=>zJ h.ur h.ok (by decide) (by rw[q];exact hg)
 have hi:=(List.getElem?_eq_some_iff.1 hx).1
 refine⟨h.be.setCell (zG h.ur g hg) _,h.no,(k _ hob).trans h.ok,far h.sr (by decide),?_,far h.vr (by decide),far h.pr (by decide),far h.nr (by decide),far h.cr (by decide),?_,fun j y hj hy=>?_,fun j y hj hy=>?_⟩
 ·have:=k9 (j:=i * 3+2) (u:=v) h.ur
  rw[<-pcU_set _ _ _ _ hx]at this
  exact this
 ·rw[<-h.pm]
  apply List.ext_getElem?
  intro j
  rw[List.getElem?_map,List.getElem?_map,List.getElem?_set]
  by_cases q:i=j
  ·subst q
   rw[if_pos rfl,if_pos hi,hx]
   rfl
  ·rw[if_neg q]
 ·by_cases q:j=i
  ·subst q
   rw[List.getElem?_set_self hi]at hy
   cases hy
   exact far hv (by decide)
  ·rw[List.getElem?_set_ne (fun r=>q r.symm)]at hy
   exact far (h.po j y (by omega) hy) (by decide)
 ·rw[List.getElem?_set_ne (by omega)]at hy
  exact h.ps j y (by omega) hy
end Go.Proofs.YtmnedfdffbbchaaGreatDoor.Jo
