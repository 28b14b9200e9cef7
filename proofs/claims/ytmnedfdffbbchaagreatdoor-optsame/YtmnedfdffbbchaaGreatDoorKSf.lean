import Derived.Test.YtmnedfdffbbchaaGreatDoorKSe
set_option maxRecDepth 100000
set_option maxHeartbeats 4000000

namespace Go.Proofs.YtmnedfdffbbchaaGreatDoor.Jo
open Go.RowKit Go.Sort
open Ob (O In I64)
open Tp (Bs)
def MarkedP (w:World) (o:O) (e:Ending) (w':World):Prop:=∃ R aim ab,e=.returned (.pointer (some ⟨ab,0,none⟩))/\Vm.Mkd o R aim/\Mks w' ab R aim/\w.heap.size<=ab/\Below w.heap.size w w'
theorem mk_marked {w w':World}{o:O}{ab tb c:Nat}{R aim:Nat->Bool}{v:Value}(h:MkJ w w' o ab tb R aim (fun i=>i∈[]) [] c v) (hE:Ents o aim o.procs.length):MarkedP w o (.returned (.pointer (some ⟨ab,0,none⟩))) w':=by
 have:=h.mi.done (fun i q=>by cases q) hE.all
 exact⟨R,aim,ab,rfl,⟨this.z,this.lt,this.ar,this.e,this.g,this.f⟩,h.mm.mr,h.mm.na,h.be⟩
theorem snoc_of' (l:List Nat):l=[]\/∃ r a,l=r++[a]:=by
 rcases List.eq_nil_or_concat l with h|⟨r,a,h⟩
 ·exact Or.inl h
 ·exact Or.inr ⟨r,a,by rw[h,List.concat_eq_append]⟩
theorem kW {w0 wr:World}{o:O}{ab tb c k:Nat}{R aim:Nat->Bool}{l:List Nat}{T T':Nat->Prop}{v:Value}(h:MkJ w0 wr o ab tb R aim T l c v/\Ents o aim k) (hT:∀ i,T i↔T' i):Hid (MkJ w0 wr o ab tb R aim T' l c v/\Ents o aim k):=⟨⟨h.1.be,h.1.mm,jD h.1.mi hT,h.1.ct⟩,h.2⟩
theorem mk_reach {w0 wr:World}{o:O}{ab tb a c:Nat}{R aim:Nat->Bool}{l:List Nat}{T:Nat->Prop}{v:Value}(h:MkJ w0 wr o ab tb R aim T l c v) (ha:a<4000) {m:Int}(hm:m=mkv true (aim a)):MkM (wr.setCell ⟨ab,a,none⟩ (.int .u8 m)) w0.heap.size ab tb (orAt R a) aim l v/\Below w0.heap.size w0 (wr.setCell ⟨ab,a,none⟩ (.int .u8 m)):=by
 obtain⟨h1,h2⟩:=h.mm.set (R':=orAt R a) (aim':=aim) ha (m:=m) (by rw[hm,yj.2 (Or.inr rfl)]) (fun j hj=>⟨by unfold orAt;simp[hj],rfl⟩)
 exact⟨h1,jd h.be h2 h.mm.nt h.mm.na (fun g q=>zG h.mm.tr g q)⟩
theorem yM (r a:Bool):bits BinOp.and IntKind.u8 (mkv r a) 1=if r=true then 1 else 0:=by cases r <;> cases a <;> decide
theorem bits_or1 (r a:Bool):bits BinOp.or IntKind.u8 (mkv r a) 1=mkv true a:=by cases r <;> cases a <;> decide
theorem xh {w:World}{n wb ob:Nat}{o:O}{sv uv vv nv pv cv:Value}(hR:Vm.Rg o) (hp10:o.procs.length<=10) (h:Wo w n wb ob o sv uv vv nv pv cv):Calls Tryz.prog 54 #[.pointer (some ⟨wb,0,none⟩)] w (MarkedP w o):=by
 have hO:=(Vm.rg_okc hR).1
 have hn4:o.code.length<=4000:=hO.n4
 have HO:=zh hO
 have hne:0<o.code.length:=by
  obtain⟨z,h1,_⟩:=hO.last
  cases hc:o.code with
  | nil=>rw[show (Vm.nu o).code=o.code from rfl,hc]at h1;cases h1
  | cons _ _=>simp
 obtain⟨cg,ccap,-,-,hca⟩:=h.code hne
 have HCA:Hid (∀ W,Below w.heap.size w W->CodeAt W wb ob cg ccap o.code):=fun W hb=>hca.on hb
 clear hca hne
 have HW:=zh h
 have HP10:=zh hp10
 have HN4:=zh hn4
 obtain⟨pa,pcap,rfl⟩:=zy h.pr
 obtain⟨pn,hpn⟩:∃ pn,pn=o.procs.length:=⟨_,rfl⟩
 have HPN:Hid (pn=o.procs.length):=hpn
 obtain⟨w1,hw1⟩:∃ w1,w1=w.alloc (.cells zMarks 148):=⟨_,rfl⟩
 have hs1:w1.heap.size=w.heap.size+1:=by rw[hw1];show (w.heap.push _).size=_;rw[Array.size_push]
 have hb1:Below w.heap.size w w1:=by rw[hw1];exact zb _ _
 have hm1:Mks w1 w.heap.size (fun _=>false) (fun _=>false):=by rw[hw1];exact mks_new w
 obtain⟨w2,hw2⟩:∃ w2,w2=w1.alloc (.cells #[.int .i64 0] 3):=⟨_,rfl⟩
 have hs2:w2.heap.size=w1.heap.size+1 :=by rw[hw2];show (w1.heap.push _).size=_;rw[Array.size_push]
 have hb2:Below w1.heap.size w1 w2:=by rw[hw2];exact zb _ _
 have hr2:w2.heap[w1.heap.size]?=some (.cells #[.int .i64 0] 3 (0,0)):=by rw[hw2];exact zw w1 _
 obtain⟨w3,hw3⟩:∃ w3,w3=w2.alloc (.cells #[.slice (some ⟨w1.heap.size,0,none⟩) 1 1] 149):=⟨_,rfl⟩
 have hb3:Below w2.heap.size w2 w3:=by rw[hw3];exact zb _ _
 have ht3:w3.heap[w1.heap.size+1 ]?=some (.cells #[.slice (some ⟨w1.heap.size,0,none⟩) 1 1] 149 (0,0)):=by rw[<-hs2,hw3];exact zw w2 _
 have hb03:Below w.heap.size w w3:=(hb1.trans (hb2.mono hb1.size)).trans (hb3.mono (Nat.le_trans hb1.size hb2.size))
 have hj0:MkJ w w3 o w.heap.size (w1.heap.size+1 ) (fun _=>false) (fun _=>false) (fun i=>i∈[0]) [0] 8001 (.slice (some ⟨w1.heap.size,0,none⟩) 1 1):=⟨hb03,⟨Nat.le_refl _,by omega,(hm1.of (hb2.block _ (by omega))).of (hb3.block _ (by omega)),ht3,by
   refine⟨rfl,Or.inr ⟨_,1,#[.int .i64 0],rfl,by omega,(hb3.block _ (by omega)).trans hr2,Nat.le_refl _,by unfold maxLen;omega,rfl,rfl⟩⟩⟩,Vm.MkI.start hO (fun i=>by simp),by
   have:=unr_le (fun _=>false) o.code.length
   simp
   omega⟩
 have HJ0:=zh hj0
 have k0:w3.cell? ⟨wb,0,none⟩=some (.pointer (some ⟨ob,0,none⟩)):=(zc (h.on hb03).wk).trans rfl
 have k4:w3.cell? ⟨ob,4,none⟩=some (.slice pa pn pcap):=by rw[hpn];exact(zc (h.on hb03).ok).trans rfl
 have lw:=zi k0
 have lo:=zi k4
 have hpm:(pn:Int)<=10:=by omega
 have HW1:=zh hw1
 have HW2:=zh hw2
 have HW3:=zh hw3
 clear hO hR h hj0 hpn hn4 hp10 hw1 hw2 hw3 hs1 hs2 hb1 hb2 hb3 hm1 hr2 ht3 hb03
 have HTB:Hid (∃ tb,tb=w1.heap.size+1):=⟨_,rfl⟩
 go_enter Tryz.func54,Tryz.ntmps54
 go_upto_region 1 with fail
 go_upto_region 3 with(refine ko rfl 148 rfl _ _ (uu _) ?_;rw[<-HW1.out])
 rw[<-HW2.out,<-HW3.out]
 go_upto_region 4 with fail
 obtain⟨tb,htb⟩:=HTB.out
 obtain⟨ab,hab⟩:∃ ab,ab=w.heap.size:=⟨_,rfl⟩
 obtain⟨vt,hvt⟩:∃ vt:Value,vt=.slice (some ⟨w1.heap.size,0,none⟩) 1 1:=⟨_,rfl⟩
 rw[<-htb,<-hab,<-hvt]
 rw[<-htb,<-hab,<-hvt]at HJ0
 have HAB:=zh hab
 have HE0:Hid (Ents o (fun _=>false) 0):=fun j e hj _=>by omega
 clear htb HTB hab hvt HW1 HW2 HW3
 go_wp2_with fail
 go_loopg [21] pn (fun k vi wr=>∃(j:Nat) (aim:Nat->Bool) (l:List Nat) (v:Value),j<=pn/\k=pn - j/\vi=.int .i64 (j:Int)/\Hid (MkJ w wr o ab tb (fun _=>false) aim (fun i=>i∈l) l (8001+j) v/\Ents o aim j))
 case atStart=>exact⟨0,_,_,_,by omega,by omega,rfl,by rw[HAB.out]at HJ0 ⊢;exact HJ0.out,HE0.out⟩
 case round =>
  clear k0 k4 lw lo HJ0 HE0
  obtain⟨j,aim,l,v,hjd,hjk,rfl,HJ⟩:=hrel
  by_cases hjt:j<pn
  ·have hjt':(j:Int)<(pn:Int):=by omega
   obtain⟨e,he⟩:∃ e,o.procs[j]?=some e:=⟨_,List.getElem?_eq_getElem (by rw[<-HPN.out];exact hjt)⟩
   have hwr:=HW.out.on HJ.out.1.be
   obtain⟨gp,capp,curp,hpv,-,-,hcpp,-⟩:=yQ hwr.pr (by rw[<-HPN.out];omega)
   have hpa:pa=some ⟨gp,0,none⟩:=by injection hpv
   have hpc:pcap=capp:=by injection hpv
   subst hpa hpc
   clear hpv
   obtain⟨s0,s4,d0,d1,d2,-,sl,so,sg⟩:=hwr.pw (Below.refl _ _) he
   rw[<-HPN.out]at s4 hcpp
   have hcp':(pn:Int)<=pcap:=by omega
   obtain⟨l0,l1⟩:=HO.out.ent e (List.mem_of_getElem? he)
   obtain⟨ka,hka⟩:=Int.eq_ofNat_of_zero_le l0
   have hna:e.at'.toNat=ka:=by omega
   obtain⟨w4,hw4⟩:∃ w4,w4=wr.alloc (.cells #[.int .i64 e.at',.int .i64 e.args,.int .i64 e.locals] 98):=⟨_,rfl⟩
   have hb4:Below wr.heap.size wr w4:=by rw[hw4];exact zb _ _
   have hx4:w4.heap[wr.heap.size]?=some (.cells #[.int .i64 e.at',.int .i64 e.args,.int .i64 e.locals] 98 (0,0)):=by rw[hw4];exact zw wr _
   have hj4:=HJ.out.1.on hb4
   have HAI:Hid (Calls Tryz.prog 85 #[.int .i64 e.at',.pointer (some ⟨ab,0,none⟩),.pointer (some ⟨tb,0,none⟩)] w4 (AimR w4 w.heap.size ab tb (fun _=>false) (fun i=>aim i || decide (i=e.at'.toNat)) (l++[e.at'.toNat]) v)):=by
    have:=aims_any (a:=ka) hj4.mm hj4.be.size (by have:=HN4.out;have l1:e.at'.toNat<o.code.length:=l1;omega) (by have:=hj4.ct;omega)
    rw[hna,hka]
    exact this
   have HNX:Hid (∀ w5,AimQ w4 w.heap.size ab tb (fun _=>false) (fun i=>aim i || decide (i=e.at'.toNat)) (l++[e.at'.toNat]) v w5->_):=fun w5 hq=>mk_ents HO.out hj4 HJ.out.2 he hq
   have x0:w4.cell? ⟨wr.heap.size,0,none⟩=some (.int .i64 e.at'):=(zc hx4).trans rfl
   have xl:=zk hx4
   generalize e.at'.toNat=en at *
   obtain⟨ea,eb,ec⟩:=e
   clear hwr HJ hj4 he l0 l1 hka hna hb4 hx4 hcpp
   go_upto_region 7 with fail
   rw[<-hw4]
   clear hw4 s0 s4 d0 d1 d2 sl so sg
   go_wp2_with fail
   refine HAI.out.mono ?_
   rintro e5 w5 ⟨rfl,hq5⟩
   obtain⟨v5,hj5,he5⟩:=HNX.out w5 hq5
   have HJ5:=zh (And.intro hj5 he5)
   clear hq5 hj5 he5 HNX HAI
   go_wp2_with fail
   go_roundg (pn - (j+1))
   case measure=>omega
   case rel=>exact⟨j+1,_,_,_,by omega,rfl,by go_num,HJ5⟩
  ·have hjt':¬(j:Int)<(pn:Int):=by omega
   have hje:j=pn:=by omega
   subst hje
   have HJ1:Hid (MkJ w wr o ab tb (fun _=>false) aim (fun i=>i∈l) l (8001+j) v/\Ents o aim o.procs.length):=by rw[<-HPN.out];exact HJ.out
   clear HJ
   go_wp2_with fail
   go_loopg [] (8001+j) (fun kk wr=>∃(R aim:Nat->Bool) (l:List Nat) (v:Value),kk<=8011/\Hid (MkJ w wr o ab tb R aim (fun i=>i∈l) l kk v/\Ents o aim o.procs.length))
   case atStart=>exact⟨_,_,_,_,by omega,HJ1⟩
   case round =>
    clear HJ1
    obtain⟨R,aim,l,v,hkk,HJ⟩:=hrel
    rcases snoc_of' l with rfl|⟨l0,a,rfl⟩
    ·have HFIN:=zh (mk_marked HJ.out.1 HJ.out.2)
     obtain⟨ta,tc,rfl⟩:=zy HJ.out.1.mm.tr
     have t0:wr.cell? ⟨tb,0,none⟩=some (.slice ta 0 tc):=(zc HJ.out.1.mm.tk).trans rfl
     have tl:=zi t0
     clear HJ
     go_wp2_with fail
     go_ret
     exact HFIN.out
    ·obtain⟨c,hc⟩:∃ c,gk=c+1:=⟨gk - 1,by have:=HJ.out.1.ct;rw[List.length_append]at this;simp at this;omega⟩
     subst hc
     obtain⟨tg,tcap,tcur,hv,-,htb2,htc,htx⟩:=yQ HJ.out.1.mm.tr (by simp)
     have hll:(l0++[a]).length=l0.length+1:=by simp
     rw[hll]at hv htc htx
     subst hv
     have ha:a<o.code.length:=HJ.out.1.mi.tl a (List.mem_append_right _ (List.mem_singleton_self _))
     have t0:wr.cell? ⟨tb,0,none⟩=some (.slice (some ⟨tg,0,none⟩) (l0.length+1) tcap):=(zc HJ.out.1.mm.tk).trans rfl
     have t1:wr.cell? ⟨tg,l0.length,none⟩=some (.int .i64 (a:Int)):=(htx _ (by omega)).trans (by rw[jm,List.getElem?_append_right (by rw[jG];omega),jG];simp)
     have tl:=zi t0
     have tl1:=zi t1
     have tf:∀ j,wr.frozen? ⟨tb,j,none⟩=false:=fun j=>zr HJ.out.1.mm.tk
     obtain⟨p1,p2⟩:=HJ.out.1.mm.less
     obtain⟨w2',hw2'⟩:∃ w2',w2'=wr.setCell ⟨tb,0,none⟩ (.slice (some ⟨tg,0,none⟩) l0.length tcap):=⟨_,rfl⟩
     rw[<-hw2']at p1 p2
     have hct:=HJ.out.1.ct
     have HJ2:Hid (MkJ w w2' o ab tb R aim (fun i=>i∈l0\/(true=true/\i=a)) l0 c (.slice (some ⟨tg,0,none⟩) l0.length tcap)/\Ents o aim o.procs.length):=⟨⟨jd HJ.out.1.be p2 HJ.out.1.mm.nt HJ.out.1.mm.na (fun g q=>zG HJ.out.1.mm.tr g q),p1,jD HJ.out.1.mi (fun i=>by simp),by rw[hll]at hct;omega⟩,HJ.out.2⟩
     have HW2':=zh hw2'
     have hlc:(l0.length:Int)+1<=tcap:=by omega
     have hlb:(l0.length:Int)<=10000:=by rw[hll]at hct;omega
     have hck:¬tcap=0:=by omega
     have ha4:a<=4000:=by have:=HN4.out;omega
     clear HJ htb2 htc htx hll p1 p2 hw2' hct ha
     generalize l0.length=ln0 at *
     have hz1:(0:Int)<(ln0:Int)+1:=by omega
     go_upto_region 12 with fail
     rw[<-HW2'.out]
     clear HW2' t0 t1 tl tl1 tf
     go_wp2_with fail
     go_loopg [8,9] (unr R o.code.length) (fun q s8 s9 wz=>∃(a:Nat) (R aim:Nat->Bool) (l:List Nat) (v:Value) (gb:Bool),s8=.int .i64 (a:Int)/\s9=.bool gb/\q=unr R o.code.length/\a<=4000/\Hid (MkJ w wz o ab tb R aim (fun i=>i∈l\/(gb=true/\i=a)) l c v/\Ents o aim o.procs.length))
     case atStart=>exact⟨a,R,aim,l0,_,true,rfl,rfl,rfl,ha4,by have h:=HJ2.out;exact⟨⟨h.1.be,h.1.mm,jD h.1.mi (fun i=>by simp),h.1.ct⟩,h.2⟩⟩
     case round =>
      clear HJ2 ha4
      obtain⟨a,R,aim,l,v,gb,rfl,rfl,hq,ha4,HK⟩:=hrel
      cases gb with
      | false =>
       have HK2:Hid (MkJ w wr o ab tb R aim (fun i=>i∈l) l c v/\Ents o aim o.procs.length):=⟨⟨HK.out.1.be,HK.out.1.mm,jD HK.out.1.mi (fun i=>by simp),HK.out.1.ct⟩,HK.out.2⟩
       clear HK
       go_wp2_with fail
       go_roundg c
       case measure=>omega
       case rel=>exact⟨_,_,_,_,by omega,HK2⟩
      | true =>
       have hal:a<o.code.length:=HK.out.1.mi.tl a (Or.inr ⟨rfl,rfl⟩)
       have ha4:a<4000:=by have:=HN4.out;omega
       by_cases hRa:R a=true
       ·have HK2:Hid (MkJ w wr o ab tb R aim (fun i=>i∈l) l c v/\Ents o aim o.procs.length):=⟨⟨HK.out.1.be,HK.out.1.mm,HK.out.1.mi.drop hRa (fun i q=>q.imp id fun r=>r.2) (fun i q=>Or.inl q),HK.out.1.ct⟩,HK.out.2⟩
        obtain⟨v8,hv8⟩:∃ v8,v8=mkv (R a) (aim a):=⟨_,rfl⟩
        have eb1:bits BinOp.and IntKind.u8 v8 1=1:=by rw[hv8,yM,if_pos hRa]
        have c8:wr.cell? ⟨ab,a,none⟩=some (.int .u8 v8):=by rw[hv8];exact HK.out.1.mm.mr.cell ha4
        have cl:=HK.out.1.mm.mr.lt
        have ha4':(a:Int)<4000:=by omega
        clear HK hv8 hRa
        go_wp2_with fail
        go_roundg c
        case measure=>omega
        case rel=>exact⟨_,_,_,_,by omega,HK2⟩
       ·obtain⟨x,hx⟩:∃ x,o.code[a]?=some x:=⟨_,List.getElem?_eq_getElem hal⟩
        obtain⟨m8,hm8⟩:∃ m8,m8=mkv true (aim a):=⟨_,rfl⟩
        obtain⟨v8,hv8⟩:∃ v8,v8=mkv (R a) (aim a):=⟨_,rfl⟩
        have eb1:bits BinOp.and IntKind.u8 v8 1=0:=by rw[hv8,yM,if_neg hRa]
        have eb2:bits BinOp.or IntKind.u8 v8 1=m8:=by rw[hv8,bits_or1,hm8]
        have c8:wr.cell? ⟨ab,a,none⟩=some (.int .u8 v8):=by rw[hv8];exact HK.out.1.mm.mr.cell ha4
        have cl:=HK.out.1.mm.mr.lt
        have cf:=HK.out.1.mm.mr.frz
        obtain⟨hmm,hbw⟩:=mk_reach HK.out.1 ha4 hm8
        obtain⟨wa,hwa⟩:∃ wa,wa=wr.setCell ⟨ab,a,none⟩ (.int .u8 m8):=⟨_,rfl⟩
        rw[<-hwa]at hmm hbw
        have hcA:=HCA.out wa hbw
        obtain⟨x0,x1,x2⟩:=hcA.at' a x hx
        have k0:=hcA.k0
        have k6:=hcA.k6
        have lg:=hcA.lg
        have lw:=zi k0
        have lo:=zi k6
        have hcc:(o.code.length:Int)<=ccap:=by have:=hcA.lc;omega
        obtain⟨wb2,hwb2⟩:∃ wb2,wb2=wa.alloc (.cells #[.int .i64 x.op,.int .i64 x.a,.int .i64 x.b] 68):=⟨_,rfl⟩
        have hb2:Below wa.heap.size wa wb2:=by rw[hwb2];exact zb _ _
        have hx2:wb2.heap[wa.heap.size]?=some (.cells #[.int .i64 x.op,.int .i64 x.a,.int .i64 x.b] 68 (0,0)):=by rw[hwb2];exact zw wa _
        have hbw2:Below w.heap.size w wb2:=hbw.trans (hb2.mono hbw.size)
        have hmm2:=hmm.on hb2
        have hu:=unr_lt (R:=R) (a:=a) (by cases hq:R a with|false=>rfl|true=>exact absurd hq hRa) o.code.length hal
        have hct:=HK.out.1.ct
        have hmi:Vm.MkI (Vm.nu o) R aim (fun i=>i∈l\/i=a):=jD HK.out.1.mi (fun i=>by simp)
        have hens:=HK.out.2
        have HB2:=zh hbw2
        have HX:Hid (∀ W,Below wb2.heap.size wb2 W->W.cell? ⟨wa.heap.size,0,none⟩=some (.int .i64 x.op)/\W.cell? ⟨wa.heap.size,1,none⟩=some (.int .i64 x.a)/\W.cell? ⟨wa.heap.size,2,none⟩=some (.int .i64 x.b)/\wa.heap.size<W.heap.size):=fun W hb=>⟨zv hb ((zc hx2).trans rfl),zv hb ((zc hx2).trans rfl),zv hb ((zc hx2).trans rfl),Nat.lt_of_lt_of_le (zk hx2) hb.size⟩
        have HF0:Hid (¬(Vm.Go8 x/\x≠Vm.idl a)->∀ gb:Bool,(gb=true↔¬Vm.Ends x\/x=Vm.idl a)->∀ W,Below wb2.heap.size wb2 W->MkJ w W o ab tb (orAt R a) aim (fun i=>i∈l\/(gb=true/\i=a+1)) l c v/\Ents o aim o.procs.length):=fun h1 gb h2 W hb=>⟨⟨hbw2.trans (hb.mono hbw2.size),hmm2.on hb,mi_visit0 HO.out hmi hx h1 h2,by omega⟩,hens⟩
        have HF1:Hid (Vm.Go8 x/\x≠Vm.idl a->∀ gb:Bool,(gb=true↔¬Vm.Ends x\/x=Vm.idl a)->∀ W,Below wb2.heap.size wb2 W->∃ t:Nat,x.a=(t:Int)/\Calls Tryz.prog 85 #[.int .i64 x.a,.pointer (some ⟨ab,0,none⟩),.pointer (some ⟨tb,0,none⟩)] W (fun e W'=>e=.returned (.tuple #[])/\Below w.heap.size w W'/\W'.cell? ⟨wa.heap.size,0,none⟩=some (.int .i64 x.op)/\W'.cell? ⟨wa.heap.size,1,none⟩=some (.int .i64 x.a)/\W'.cell? ⟨wa.heap.size,2,none⟩=some (.int .i64 x.b)/\wa.heap.size<W'.heap.size/\∃ v',∀ W'',Below W'.heap.size W' W''->MkJ w W'' o ab tb (orAt R a) (orAt aim t) (fun i=>i∈l++[t]\/(gb=true/\i=a+1)) (l++[t]) c v'/\Ents o (orAt aim t) o.procs.length)):=fun h1 gb h2 W hb=>by
         obtain⟨q0,q1⟩:=HO.out.lab x (List.mem_of_getElem? hx) h1.1
         obtain⟨t,ht⟩:=Int.eq_ofNat_of_zero_le q0
         have htn:x.a.toNat=t:=by omega
         refine⟨t,ht,?_⟩
         have q1':x.a.toNat<o.code.length:=q1
         have hai:=aims_any (a:=t) (hmm2.on hb) (Nat.le_trans hbw2.size hb.size) (by have:=HN4.out;omega) (by omega)
         rw[ht]
         refine hai.mono ?_
         rintro e W' ⟨rfl,v',p1,p2⟩
         have hbW:Below w.heap.size w W':=jd (hbw2.trans (hb.mono hbw2.size)) p2 (hmm2.on hb).nt (hmm2.on hb).na (fun g q=>zG (hmm2.on hb).tr g q)
         have hxW:W'.heap[wa.heap.size]?=_:=(p2.block _ (Nat.lt_of_lt_of_le (zk hx2) hb.size) (fun q=>by have:=zk hmm.tk;omega) (fun q=>by have h1:=hmm.mr.lt;have h2:ab=wa.heap.size:=Option.some.inj q;omega) (fun q=>by have:=owns_lt hmm.tr _ q;omega)).trans ((hb.block _ (zk hx2)).trans hx2)
         refine⟨rfl,hbW,(zc hxW).trans rfl,(zc hxW).trans (by rw[ht];rfl),(zc hxW).trans rfl,zk hxW,v',fun W'' hb''=>⟨⟨hbW.trans (hb''.mono hbW.size),p1.on hb'',?_,?_⟩,fun j e hj he=>yj.2 (Or.inl (hens j e hj he))⟩⟩
         ·have:=mi_visit1 HO.out hmi hx h1 h2
          rw[htn]at this
          exact this
         ·rw[List.length_append]
          simp
          omega
        have HID:=zh (fun W (hb:Below w.heap.size w W)=>idle_any (HCA.out W hb) hx HN4.out)
        have HGT:=zh (fun W=>xj x (b:=(x.op == 12 || x.op == 13)) rfl W)
        have HEN:=zh (fun W=>jb x (b:=(x.op == 15 || x.op == 17)) rfl W)
        have hmeas:unr (orAt R a) o.code.length<unr R o.code.length:=by omega
        have hai:(a:Int)<o.code.length:=by omega
        have hl4:(o.code.length:Int)<=4000:=by have:=HN4.out;omega
        have ha4':(a:Int)<4000:=by omega
        have hIDL:Hid (∀ b,IdlB a x=b->(b=true↔x=Vm.idl a)):=fun b hb=>by rw[<-hb];exact idlB_iff
        unfold iA at HGT HEN
        obtain⟨xo,xa,xb⟩:=x
        generalize hbi:IdlB a ⟨xo,xa,xb⟩=bi at *
        have hidl:=hIDL.out bi rfl
        have hgo8:Vm.Go8 ⟨xo,xa,xb⟩↔xo=12\/xo=13:=Iff.rfl
        have hende:Vm.Ends ⟨xo,xa,xb⟩↔xo=12\/xo=15\/xo=17:=Iff.rfl
        have hi12:bi=true->xo=12:=fun q=>by have:=hidl.1 q;exact congrArg Ob.In.op this
        have HWA:=zh hwa
        have HWB:=zh hwb2
        have HMS:=zh hmeas
        have HQ:=zh hq
        generalize hln:o.code.length=ln at *
        clear HK hx hm8 hv8 hmm hbw hwa hcA hwb2 hb2 hx2 hbw2 hmm2 hu hct hmi hens hIDL hbi hmeas hln
        cases bi with
        | true =>
         obtain rfl:=hi12 rfl
         have HN:=zh (HF0.out (fun q=>q.2 (hidl.1 rfl)) true ⟨fun _=>Or.inr (hidl.1 rfl),fun _=>rfl⟩)
         have eg:((12:Int) == 12 || (12:Int) == 13)=true:=rfl
         have ee:((12:Int) == 15 || (12:Int) == 17)=false:=rfl
         rw[eg]at HGT
         rw[ee]at HEN
         clear eg ee hgo8 hende hi12 hidl hal hRa hq HF0 HF1
         go_upto_region 16 with fail
         rw[<-HWA.out]
         go_upto_region 17 with fail
         rw[<-HWB.out]
         clear HWA HWB c8 cl cf x0 x1 x2 k0 k6 lg lw lo
         obtain⟨y0,y1,y2,y3⟩:=HX.out wb2 (Below.refl _ _)
         go_wp2_with fail
         refine(HGT.out _).mono ?_
         rintro e5 w5 ⟨rfl,hb5⟩
         have HB5:=zh hb5
         obtain⟨u0,u1,u2,u3⟩:=HX.out w5 hb5
         clear hb5 y0 y1 y2 y3
         go_wp2_with fail
         refine(HID.out w5 (HB2.out.trans (HB5.out.mono HB2.out.size))).mono ?_
         rintro e6 w6 ⟨rfl,hb6⟩
         have HB6:Hid (Below wb2.heap.size wb2 w6):=HB5.out.trans (hb6.mono HB5.out.size)
         obtain⟨s0,s1,s2,s3⟩:=HX.out w6 HB6.out
         clear hb6 u0 u1 u2 u3
         go_wp2_with fail
         refine(HEN.out _).mono ?_
         rintro e7 w7 ⟨rfl,hb7⟩
         have HB7:Hid (Below wb2.heap.size wb2 w7):=HB6.out.trans (hb7.mono HB6.out.size)
         obtain⟨r0,r1,r2,r3⟩:=HX.out w7 HB7.out
         clear hb7 s0 s1 s2 s3
         go_wp2_with fail
         refine(HID.out w7 (HB2.out.trans (HB7.out.mono HB2.out.size))).mono ?_
         rintro e6 w8 ⟨rfl,hb6⟩
         have HB8:Hid (Below wb2.heap.size wb2 w8):=HB7.out.trans (hb6.mono HB7.out.size)
         obtain⟨s0,s1,s2,s3⟩:=HX.out w8 HB8.out
         clear hb6 r0 r1 r2 r3
         go_wp2_with fail
         go_roundg (unr (orAt R a) ln)
         case measure=>(have h1:=HQ.out;have h2:=HMS.out;omega)
         case rel=>exact⟨a+1,orAt R a,aim,l,v,true,by go_num,rfl,rfl,by omega,kW (HN.out w8 HB8.out) (fun i=>by simp)⟩
        | false =>
         have hnid:¬(⟨xo,xa,xb⟩:In)=Vm.idl a:=fun q=>Bool.noConfusion (hidl.2 q)
         by_cases o12:xo=12
         ·subst o12
          have HP:=zh (HF1.out ⟨Or.inl rfl,hnid⟩ false ⟨fun q=>Bool.noConfusion q,fun q=>(q.elim (fun r=>absurd (Or.inl rfl) r) fun r=>absurd r hnid)⟩)
          have eg:((12:Int) == 12 || (12:Int) == 13)=true:=rfl
          have ee:((12:Int) == 15 || (12:Int) == 17)=false:=rfl
          rw[eg]at HGT
          rw[ee]at HEN
          clear eg ee hgo8 hende hi12 hidl hal hRa hq hnid HF0 HF1
          go_upto_region 16 with fail
          rw[<-HWA.out]
          go_upto_region 17 with fail
          rw[<-HWB.out]
          clear HWA HWB c8 cl cf x0 x1 x2 k0 k6 lg lw lo
          obtain⟨y0,y1,y2,y3⟩:=HX.out wb2 (Below.refl _ _)
          go_wp2_with fail
          refine(HGT.out _).mono ?_
          rintro e5 w5 ⟨rfl,hb5⟩
          have HB5:=zh hb5
          obtain⟨u0,u1,u2,u3⟩:=HX.out w5 hb5
          clear hb5 y0 y1 y2 y3
          go_wp2_with fail
          refine(HID.out w5 (HB2.out.trans (HB5.out.mono HB2.out.size))).mono ?_
          rintro e6 w6 ⟨rfl,hb6⟩
          have HB6:Hid (Below wb2.heap.size wb2 w6):=HB5.out.trans (hb6.mono HB5.out.size)
          obtain⟨s0,s1,s2,s3⟩:=HX.out w6 HB6.out
          clear hb6 u0 u1 u2 u3
          go_wp2_with fail
          obtain⟨t,hta,hcall⟩:=HP.out w6 HB6.out
          have HCL:=zh hcall
          have HTA:=zh hta
          clear hcall hta HP
          refine HCL.out.mono ?_
          rintro e9 w9 ⟨rfl,hb9,q0,q1,q2,q3,v',hnx⟩
          have HNX:=zh hnx
          have HB9:=zh hb9
          clear hnx hb9 HCL s0 s1 s2 s3
          go_wp2_with fail
          refine(HEN.out _).mono ?_
          rintro e7 w7 ⟨rfl,hb7⟩
          have HB7:=zh hb7
          have r0:=zv hb7 q0
          have r3:=zi r0
          clear hb7 q0 q1 q2 q3
          go_wp2_with fail
          refine(HID.out w7 (HB9.out.trans (HB7.out.mono HB9.out.size))).mono ?_
          rintro e8 w8 ⟨rfl,hb8⟩
          have HN8:=zh (HNX.out w8 (HB7.out.trans (hb8.mono HB7.out.size)))
          clear hb8 HNX
          go_wp2_with fail
          go_roundg (unr (orAt R a) ln)
          case measure=>(have h1:=HQ.out;have h2:=HMS.out;omega)
          case rel=>exact⟨a+1,orAt R a,orAt aim t,l++[t],v',false,by go_num,rfl,rfl,by omega,kW HN8.out (fun i=>by simp)⟩
         by_cases o13:xo=13
         ·subst o13
          have HP:=zh (HF1.out ⟨Or.inr rfl,hnid⟩ true ⟨fun _=>Or.inl (fun q=>by have:=hende.1 q;omega),fun _=>rfl⟩)
          have eg:((13:Int) == 12 || (13:Int) == 13)=true:=rfl
          have ee:((13:Int) == 15 || (13:Int) == 17)=false:=rfl
          rw[eg]at HGT
          rw[ee]at HEN
          clear eg ee hgo8 hende hi12 hidl hal hRa hq hnid HF0 HF1
          go_upto_region 16 with fail
          rw[<-HWA.out]
          go_upto_region 17 with fail
          rw[<-HWB.out]
          clear HWA HWB c8 cl cf x0 x1 x2 k0 k6 lg lw lo
          obtain⟨y0,y1,y2,y3⟩:=HX.out wb2 (Below.refl _ _)
          go_wp2_with fail
          refine(HGT.out _).mono ?_
          rintro e5 w5 ⟨rfl,hb5⟩
          have HB5:=zh hb5
          obtain⟨u0,u1,u2,u3⟩:=HX.out w5 hb5
          clear hb5 y0 y1 y2 y3
          go_wp2_with fail
          refine(HID.out w5 (HB2.out.trans (HB5.out.mono HB2.out.size))).mono ?_
          rintro e6 w6 ⟨rfl,hb6⟩
          have HB6:Hid (Below wb2.heap.size wb2 w6):=HB5.out.trans (hb6.mono HB5.out.size)
          obtain⟨s0,s1,s2,s3⟩:=HX.out w6 HB6.out
          clear hb6 u0 u1 u2 u3
          go_wp2_with fail
          obtain⟨t,hta,hcall⟩:=HP.out w6 HB6.out
          have HCL:=zh hcall
          have HTA:=zh hta
          clear hcall hta HP
          refine HCL.out.mono ?_
          rintro e9 w9 ⟨rfl,hb9,q0,q1,q2,q3,v',hnx⟩
          have HNX:=zh hnx
          have HB9:=zh hb9
          clear hnx hb9 HCL s0 s1 s2 s3
          go_wp2_with fail
          refine(HEN.out _).mono ?_
          rintro e7 w7 ⟨rfl,hb7⟩
          have HB7:=zh hb7
          have r0:=zv hb7 q0
          have r3:=zi r0
          clear hb7 q0 q1 q2 q3
          go_wp2_with fail
          have HN8:=zh (HNX.out w7 HB7.out)
          clear HNX
          go_roundg (unr (orAt R a) ln)
          case measure=>(have h1:=HQ.out;have h2:=HMS.out;omega)
          case rel=>exact⟨a+1,orAt R a,orAt aim t,l++[t],v',true,by go_num,rfl,rfl,by omega,kW HN8.out (fun i=>by simp)⟩
         have hng:¬(Vm.Go8 ⟨xo,xa,xb⟩/\(⟨xo,xa,xb⟩:In)≠Vm.idl a):=fun q=>by have:=hgo8.1 q.1;omega
         have eg:(xo == 12 || xo == 13)=false:=by rw[beq_false_of_ne o12,beq_false_of_ne o13];rfl
         rw[eg]at HGT
         by_cases o15:xo=15\/xo=17
         ·have HN:=zh (HF0.out hng false ⟨fun q=>Bool.noConfusion q,fun q=>(q.elim (fun r=>absurd (hende.2 (Or.inr o15)) r) fun r=>absurd r hnid)⟩)
          have ee:(xo == 15 || xo == 17)=true:=by rcases o15 with q|q <;> rw[q] <;> rfl
          rw[ee]at HEN
          clear eg ee hgo8 hende hi12 hidl hal hRa hq hnid HF0 HF1 hng o15
          go_upto_region 16 with fail
          rw[<-HWA.out]
          go_upto_region 17 with fail
          rw[<-HWB.out]
          clear HWA HWB c8 cl cf x0 x1 x2 k0 k6 lg lw lo
          obtain⟨y0,y1,y2,y3⟩:=HX.out wb2 (Below.refl _ _)
          go_wp2_with fail
          refine(HGT.out _).mono ?_
          rintro e5 w5 ⟨rfl,hb5⟩
          have HB5:=zh hb5
          obtain⟨u0,u1,u2,u3⟩:=HX.out w5 hb5
          clear hb5 y0 y1 y2 y3
          go_wp2_with fail
          refine(HEN.out _).mono ?_
          rintro e7 w7 ⟨rfl,hb7⟩
          have HB7:Hid (Below wb2.heap.size wb2 w7):=HB5.out.trans (hb7.mono HB5.out.size)
          obtain⟨r0,r1,r2,r3⟩:=HX.out w7 HB7.out
          clear hb7 u0 u1 u2 u3
          go_wp2_with fail
          go_roundg (unr (orAt R a) ln)
          case measure=>(have h1:=HQ.out;have h2:=HMS.out;omega)
          case rel=>exact⟨a+1,orAt R a,aim,l,v,false,by go_num,rfl,rfl,by omega,kW (HN.out w7 HB7.out) (fun i=>by simp)⟩
         have HN:=zh (HF0.out hng true ⟨fun _=>Or.inl (fun q=>by have:=hende.1 q;omega),fun _=>rfl⟩)
         have ee:(xo == 15 || xo == 17)=false:=by
          rw[Bool.or_eq_false_iff]
          exact⟨beq_false_of_ne fun q=>o15 (Or.inl q),beq_false_of_ne fun q=>o15 (Or.inr q)⟩
         rw[ee]at HEN
         have k12:(xo == 12)=false:=beq_false_of_ne o12
         clear eg ee hgo8 hende hi12 hidl hal hRa hq hnid HF0 HF1 hng o15 o13
         go_upto_region 16 with fail
         rw[<-HWA.out]
         go_upto_region 17 with fail
         rw[<-HWB.out]
         clear HWA HWB c8 cl cf x0 x1 x2 k0 k6 lg lw lo
         obtain⟨y0,y1,y2,y3⟩:=HX.out wb2 (Below.refl _ _)
         go_wp2_with fail
         refine(HGT.out _).mono ?_
         rintro e5 w5 ⟨rfl,hb5⟩
         have HB5:=zh hb5
         obtain⟨u0,u1,u2,u3⟩:=HX.out w5 hb5
         clear hb5 y0 y1 y2 y3
         go_wp2_with fail
         refine(HEN.out _).mono ?_
         rintro e7 w7 ⟨rfl,hb7⟩
         have HB7:Hid (Below wb2.heap.size wb2 w7):=HB5.out.trans (hb7.mono HB5.out.size)
         obtain⟨r0,r1,r2,r3⟩:=HX.out w7 HB7.out
         clear hb7 u0 u1 u2 u3
         go_wp2_with fail
         go_roundg (unr (orAt R a) ln)
         case measure=>(have h1:=HQ.out;have h2:=HMS.out;omega)
         case rel=>exact⟨a+1,orAt R a,aim,l,v,true,by go_num,rfl,rfl,by omega,kW (HN.out w7 HB7.out) (fun i=>by simp)⟩
end Go.Proofs.YtmnedfdffbbchaaGreatDoor.Jo

namespace Vm
open Ob (O In)
open Tp (Bs)
def plA (pl:Nat->Nat) (i k:Nat):Nat->Nat:=fun q=>if q=i then k else pl q
structure SqS (o:O) (R aim:Nat->Bool) (i:Nat) (l:List In) (pl:Nat->Nat) (e:Nat):Prop where
 inv:SqI (nu o) aim o.code.length i ((dceC R o.code).drop i) l pl e
 ql:AllQ o l
 nn:∀ z∈l,Go8 z->0<=z.a
 eq:sqF aim i ((dceC R o.code).drop i) l pl e=sqL o R aim
theorem sqs_start {o:O}(hO:Okc (nu o)) {R aim:Nat->Bool}(hM:Mkd o R aim):SqS o R aim 0 [] (fun _=>0) 0:=⟨jw hO hM.nu,fun z hz=>(by cases hz),fun z hz=>(by cases hz),rfl⟩
theorem dce_drop {R:Nat->Bool}{c:List In}{i:Nat}(hi:i<c.length):(dceC R c).drop i=(if R i=true then c.getD i in0 else idl i) :: (dceC R c).drop (i+1):=by
 have hl:i<(dceC R c).length:=by rw[jL];exact hi
 rw[List.drop_eq_getElem_cons hl]
 congr 1
 have h1:(dceC R c)[i]?=some (dceC R c)[i]:=List.getElem?_eq_getElem hl
 by_cases hR:R i=true
 ·rw[ju hR]at h1
  rw[if_pos hR,List.getD_eq_getElem?_getD,h1]
  rfl
 ·rw[xn hi hR]at h1
  rw[if_neg hR]
  exact(Option.some.inj h1).symm
theorem sqs_skip {o:O}(hA:Al (nu o)) {R aim:Nat->Bool}{i:Nat}{l:List In}{pl:Nat->Nat}{e:Nat}(h:SqS o R aim i l pl e) (hi:i<o.code.length) (hs:R i=true->o.code[i]?=some (idl i)):SqS o R aim (i+1) l (plA pl i l.length) (nxE aim i l.length e):=by
 have e1:(dceC R o.code).drop i=idl i :: (dceC R o.code).drop (i+1):=by
  rw[dce_drop hi]
  by_cases hR:R i=true
  ·rw[if_pos hR,List.getD_eq_getElem?_getD,hs hR]
   rfl
  ·rw[if_neg hR]
 have h1:=h.inv
 have h2:=h.eq
 rw[e1]at h1 h2
 rw[jx]at h2
 exact⟨(vO hA h1).1,h.ql,h.nn,h2⟩
theorem wts_le2 (l:List In):wts l<=2 * l.length:=by
 induction l with
 | nil=>exact Nat.le_refl _
 | cons x r ih =>
  have e:wts (x :: r)=wt x+wts r:=by simp[wts]
  have:=(yB x).2
  rw[e,List.length_cons]
  omega
theorem sqs_add {o:O}(hO:Okc (nu o)) (hI:Inst o) {R aim:Nat->Bool}{i:Nat}{l:List In}{pl:Nat->Nat}{e:Nat}{x:In}(h:SqS o R aim i l pl e) (hx:o.code[i]?=some x) (hR:R i=true) (hn:x≠idl i):Pre o (wts l+wt x+1) (nxE aim i l.length e) l x/\wts l+wt x+1<=20000/\SqS o R aim (i+1) (addF (wts l+wt x+1) (nxE aim i l.length e) (i+1) l x) (plA pl i l.length) (nxE aim i l.length e):=by
 have hi:=(List.getElem?_eq_some_iff.1 hx).1
 have e1:(dceC R o.code).drop i=x :: (dceC R o.code).drop (i+1):=by
  rw[dce_drop hi,if_pos hR,List.getD_eq_getElem?_getD,hx]
  rfl
 have h1:=h.inv
 have h2:=h.eq
 rw[e1]at h1 h2
 rw[xw hn]at h2
 have hle:=jC (aim:=aim) (i:=i) h1.he
 have hqx:Qi o x:=xJ hI x (List.mem_of_getElem? hx)
 have hw:=wts_le2 l
 have hpx:=yB x
 have hli:=h1.hl
 have hn4:o.code.length<=4000:=hO.n4
 have hp:Pre o (wts l+wt x+1) (nxE aim i l.length e) l x:=⟨hle.2,h1.okl,h1.okr x (by simp),h1.irr.le hle.1,h.ql,hqx,by omega⟩
 refine⟨hp,by omega,(sq_add hO.al h1 hn rfl).1,jN _ l x h.ql hqx,fun z hz hg=>?_,h2⟩
 have hk:AddOk (nu o) (nxE aim i l.length e) (i+1) l x _:=hp.ok hO.al
 obtain⟨w,q1,q2,q3⟩:=hk.lab z hz hg
 rw[<-q3]
 rcases List.mem_append.1 q1 with r|r
 ·exact h.nn w r q2
 ·rw[List.mem_singleton.1 r]at q2 ⊢
  exact(hO.lab x (List.mem_of_getElem? hx) q2).1
theorem sqs_done {o:O}{R aim:Nat->Bool}{i:Nat}{l:List In}{pl:Nat->Nat}{e:Nat}(h:SqS o R aim i l pl e) (hi:i=o.code.length):sqL o R aim=(l,pl)/\(∀ z∈l,Go8 z->0<=z.a/\z.a.toNat<o.code.length)/\(∀ e∈o.procs,aim e.at'.toNat=true/\e.at'.toNat<o.code.length):=by
 have e1:(dceC R o.code).drop i=[]:=List.drop_eq_nil_of_le (by rw[jL];omega)
 have h2:=h.eq
 rw[e1,sqF]at h2
 exact⟨h2.symm,fun z hz hg=>⟨h.nn z hz hg,(h.inv.labl z hz hg).2⟩,h.inv.ent⟩
def relN (pl:Nat->Nat) (k:Nat) (l:List In):List In:=(l.take k).map (rl pl)++l.drop k
theorem relN_zero (pl:Nat->Nat) (l:List In):relN pl 0 l=l:=by simp[relN]
theorem relN_all (pl:Nat->Nat) (l:List In):relN pl l.length l=l.map (rl pl):=by simp[relN]
theorem relN_len (pl:Nat->Nat) (k:Nat) (l:List In):(relN pl k l).length=l.length:=by
 unfold relN
 simp
 omega
theorem relN_at {pl:Nat->Nat}{k:Nat}{l:List In}(hk:k<l.length):(relN pl k l)[k]?=l[k]?:=by
 unfold relN
 rw[List.getElem?_append_right (by simp;omega)]
 simp[Nat.min_eq_left (Nat.le_of_lt hk)]
theorem relN_next {pl:Nat->Nat}{k:Nat}{l:List In}{x:In}(hx:l[k]?=some x):relN pl (k+1) l=(relN pl k l).set k (rl pl x):=by
 have hk:=(List.getElem?_eq_some_iff.1 hx).1
 have hk':=(List.getElem?_eq_some_iff.1 hx).2
 unfold relN
 rw[List.set_append_right _ _ (by simp;omega),List.take_succ_eq_append_getElem hk,List.drop_eq_getElem_cons hk,hk']
 simp[Nat.min_eq_left (Nat.le_of_lt hk)]
end Vm

namespace Go.Proofs.YtmnedfdffbbchaaGreatDoor.Jo
open Go.RowKit Go.Sort
open Ob (O In I64)
open Tp (Bs)
theorem yV (r a:Bool):bits BinOp.and IntKind.u8 (mkv r a) 2=if a=true then 2 else 0:=by cases r <;> cases a <;> decide
def Pls (w:World) (pb:Nat) (pl:Nat->Nat) (i:Nat):Prop:=∃ cs:Array Value,w.heap[pb]?=some (.cells cs 142 (0,0))/\cs.size=4000/\∀ q,q<i->cs[q]?=some (.int .i64 (pl q:Int))
theorem Pls.of {w w':World}{pb:Nat}{pl:Nat->Nat}{i:Nat}(h:Pls w pb pl i) (k:w'.heap[pb]?=w.heap[pb]?):Pls w' pb pl i:=by
 obtain⟨cs,a,b⟩:=h
 exact⟨cs,k.trans a,b⟩
theorem Pls.lt {w:World}{pb:Nat}{pl:Nat->Nat}{i:Nat}(h:Pls w pb pl i):pb<w.heap.size:=by
 obtain⟨cs,a,b⟩:=h
 exact zk a
theorem Pls.cell {w:World}{pb:Nat}{pl:Nat->Nat}{i:Nat}(h:Pls w pb pl i) {q:Nat}(hq:q<i):w.cell? ⟨pb,q,none⟩=some (.int .i64 (pl q:Int)):=by
 obtain⟨cs,a,b,c⟩:=h
 exact(zc a).trans (c q hq)
theorem Pls.there {w:World}{pb:Nat}{pl:Nat->Nat}{i:Nat}(h:Pls w pb pl i) {q:Nat}(hq:q<4000):∃ u,w.cell? ⟨pb,q,none⟩=some u:=by
 obtain⟨cs,a,b,c⟩:=h
 exact⟨cs[q],(zc a).trans (Array.getElem?_eq_getElem (by omega))⟩
theorem Pls.frz {w:World}{pb:Nat}{pl:Nat->Nat}{i:Nat}(h:Pls w pb pl i):∀ j,w.frozen? ⟨pb,j,none⟩=false:=by
 obtain⟨cs,a,b⟩:=h
 exact fun _=>zr a
theorem Pls.set {w:World}{pb:Nat}{pl:Nat->Nat}{i k:Nat}(h:Pls w pb pl i) (hi:i<4000):Pls (w.setCell ⟨pb,i,none⟩ (.int .i64 (k:Int))) pb (Vm.plA pl i k) (i+1):=by
 obtain⟨cs,a,b,c⟩:=h
 refine⟨cs.setIfInBounds i (.int .i64 (k:Int)),zC i _ a,by simpa using b,fun q hq=>?_⟩
 unfold Vm.plA
 by_cases r:q=i
 ·subst r
  rw[if_pos rfl,Array.getElem?_setIfInBounds_self_of_lt (by omega)]
 ·rw[if_neg r,Array.getElem?_setIfInBounds_ne (fun t=>r t.symm),c q (by omega)]
theorem pls_new (w:World):Pls (w.alloc (.cells zPlace 142)) w.heap.size (fun _=>0) 0:=⟨zPlace,zw w _,by unfold zPlace;simp,fun q hq=>by omega⟩
theorem Ld.pne {w:World}{n lb eb nx e pb i:Nat}{cs:List In}{v:Value}{pl:Nat->Nat}(h:Ld w n lb eb nx e cs v) (hp:Pls w pb pl i):pb≠lb/\pb≠eb/\v.ownBlock≠some pb:=by
 obtain⟨c,a,b⟩:=hp
 refine⟨fun q=>?_,fun q=>?_,zJ h.cr a (by decide)⟩
 ·rw[q,h.lk]at a
  cases a
 ·rw[q,h.ek]at a
  cases a
theorem Ld.next {w:World}{n lb eb nx e pb i:Nat}{cs:List In}{v:Value}{pl:Nat->Nat}(h:Ld w n lb eb nx e cs v) (hp:Pls w pb pl i) (hi:i<4000):Ld ((w.setCell ⟨pb,i,none⟩ (.int .i64 (cs.length:Int))).setCell ⟨lb,1,none⟩ (.int .i64 ((i+1:Nat):Int))) n lb eb (i+1) e cs v/\Pls ((w.setCell ⟨pb,i,none⟩ (.int .i64 (cs.length:Int))).setCell ⟨lb,1,none⟩ (.int .i64 ((i+1:Nat):Int))) pb (Vm.plA pl i cs.length) (i+1):=by
 obtain⟨h1,h2,h3⟩:=h.pne hp
 have h4:v.ownBlock≠some lb:=zJ h.cr h.lk (by decide)
 have k1:∀ b,b≠pb->(w.setCell ⟨pb,i,none⟩ (.int .i64 (cs.length:Int))).heap[b]?=w.heap[b]?:=fun b hb=>Below.heap_setCell _ _ _ _ (by exact hb)
 have k2:∀ b,b≠lb->((w.setCell ⟨pb,i,none⟩ (.int .i64 (cs.length:Int))).setCell ⟨lb,1,none⟩ (.int .i64 ((i+1:Nat):Int))).heap[b]?=(w.setCell ⟨pb,i,none⟩ (.int .i64 (cs.length:Int))).heap[b]?:=fun b hb=>Below.heap_setCell _ _ _ _ (by exact hb)
 exact⟨⟨h.nl,h.ne,zC 1 _ ((k1 _ (fun q=>h1 q.symm)).trans h.lk),(k2 _ (fun q=>h.neb q.symm)).trans ((k1 _ (fun q=>h2 q.symm)).trans h.ek),z7 h.cr fun b _ _ hb=>(k2 b (fun q=>h4 (q ▸ hb))).trans (k1 b fun q=>h3 (q ▸ hb))⟩,(hp.set hi).of (k2 _ h1)⟩
theorem Ld.edge {w:World}{n lb eb nx e e' pb i:Nat}{cs:List In}{v:Value}{pl:Nat->Nat}(h:Ld w n lb eb nx e cs v) (hp:Pls w pb pl i):Ld (w.setCell ⟨eb,0,none⟩ (.int .i64 (e':Int))) n lb eb nx e' cs v/\Pls (w.setCell ⟨eb,0,none⟩ (.int .i64 (e':Int))) pb pl i:=by
 obtain⟨h1,h2,h3⟩:=h.pne hp
 have h4:v.ownBlock≠some eb:=zJ h.cr h.ek (by decide)
 have k1:∀ b,b≠eb->(w.setCell ⟨eb,0,none⟩ (.int .i64 (e':Int))).heap[b]?=w.heap[b]?:=fun b hb=>Below.heap_setCell _ _ _ _ (by exact hb)
 exact⟨⟨h.nl,h.ne,(k1 _ h.neb).trans h.lk,zC 0 _ h.ek,z7 h.cr fun b _ _ hb=>k1 b fun q=>h4 (q ▸ hb)⟩,hp.of (k1 _ h2)⟩
structure SqM (w0 wr:World) (o:O) (R aim:Nat->Bool) (pb lb eb i nx:Nat) (l:List In) (pl:Nat->Nat) (e:Nat) (v:Value):Prop where
 be:Below w0.heap.size w0 wr
 ld:Ld wr w0.heap.size lb eb nx e l v
 pg:w0.heap.size<=pb
 pp:Pls wr pb pl i
 st:Vm.SqS o R aim i l pl e
theorem SqM.skip {w0 wr w':World}{o:O}{R aim:Nat->Bool}{pb lb eb i nx nx' e':Nat}{l:List In}{pl:Nat->Nat}{e:Nat}{v:Value}(hO:Vm.Okc (Vm.nu o)) (h:SqM w0 wr o R aim pb lb eb i nx l pl e v) (hi:i<o.code.length) (hs:R i=true->o.code[i]?=some (Vm.idl i)) (be:Below w0.heap.size w0 w') (hl:Ld w' w0.heap.size lb eb nx' e' l v) (he:e'=Vm.nxE aim i l.length e) (hp:Pls w' pb (Vm.plA pl i l.length) (i+1)):SqM w0 w' o R aim pb lb eb (i+1) nx' l (Vm.plA pl i l.length) e' v:=⟨be,hl,h.pg,hp,by rw[he];exact Vm.sqs_skip hO.al h.st hi hs⟩
theorem vE (l:List In) (i:Nat) (x:In) (m:Int) (h:l[i]?=some x):cellsOf inC (l.set i ⟨x.op,m,x.b⟩)=(cellsOf inC l).set (i * 3+1) (.int .i64 m):=by
 induction l generalizing i with
 | nil=>simp at h
 | cons y r ih =>
  cases i with
  | zero =>
   simp at h
   subst h
   rfl
  | succ i =>
   have h:r[i]?=some x:=by simpa using h
   show inC y++cellsOf inC (r.set i _)=_
   rw[ih i h,show (i+1) * 3+1=i * 3+1+3 by omega]
   rfl
theorem Ld.seta {w:World}{n lb eb nx e pb k g cap i:Nat}{cs:List In}{pl:Nat->Nat}{x:In}(h:Ld w n lb eb nx e cs (.slice (some ⟨g,0,none⟩) cs.length cap)) (hp:Pls w pb pl k) (hx:cs[i]?=some x) (m:Int):Ld (w.setCell ⟨g,i * 3+1,none⟩ (.int .i64 m)) n lb eb nx e (cs.set i ⟨x.op,m,x.b⟩) (.slice (some ⟨g,0,none⟩) cs.length cap)/\Pls (w.setCell ⟨g,i * 3+1,none⟩ (.int .i64 m)) pb pl k:=by
 have hg:(Value.slice (some ⟨g,0,none⟩) cs.length cap).ownBlock=some g:=rfl
 obtain⟨h1,h2,h3⟩:=h.pne hp
 have n1:lb≠g:=fun q=>zJ h.cr h.lk (by decide) (by rw[q];exact hg)
 have n2:eb≠g:=fun q=>zJ h.cr h.ek (by decide) (by rw[q];exact hg)
 have n3:pb≠g:=fun q=>h3 (by rw[q];exact hg)
 have k1:∀ b,b≠g->(w.setCell ⟨g,i * 3+1,none⟩ (.int .i64 m)).heap[b]?=w.heap[b]?:=fun b hb=>Below.heap_setCell _ _ _ _ (by exact hb)
 refine⟨⟨h.nl,h.ne,(k1 _ n1).trans h.lk,(k1 _ n2).trans h.ek,?_⟩,hp.of (k1 _ n3)⟩
 have:=k9 (j:=i * 3+1) (u:=.int .i64 m) h.cr
 rw[<-vE _ _ _ _ hx]at this
 rw[List.length_set]
 exact this
structure S2 (w0 wr:World) (cn pb lb eb nx:Nat) (l:List In) (pl:Nat->Nat) (e:Nat) (v:Value) (k:Nat):Prop where
 be:Below w0.heap.size w0 wr
 ld:Ld wr w0.heap.size lb eb nx e (Vm.relN pl k l) v
 pg:w0.heap.size<=pb
 pp:Pls wr pb pl cn
theorem S2.on {w0 wr w':World}{cn pb lb eb nx:Nat}{l:List In}{pl:Nat->Nat}{e:Nat}{v:Value}{k:Nat}(h:S2 w0 wr cn pb lb eb nx l pl e v k) (b:Below wr.heap.size wr w'):S2 w0 w' cn pb lb eb nx l pl e v k:=⟨h.be.trans (b.mono h.be.size),h.ld.on b,h.pg,h.pp.of (b.block _ h.pp.lt)⟩
theorem S2.go {w0 wr:World}{cn pb lb eb nx g cap:Nat}{l:List In}{pl:Nat->Nat}{e:Nat}{k:Nat}{x:In}(h:S2 w0 wr cn pb lb eb nx l pl e (.slice (some ⟨g,0,none⟩) l.length cap) k) (hx:l[k]?=some x) (hg:Vm.Go8 x):S2 w0 (wr.setCell ⟨g,k * 3+1,none⟩ (.int .i64 (pl x.a.toNat:Int))) cn pb lb eb nx l pl e (.slice (some ⟨g,0,none⟩) l.length cap) (k+1):=by
 have hk:=(List.getElem?_eq_some_iff.1 hx).1
 have hl:=h.ld
 have e1:(Vm.relN pl k l).length=l.length:=Vm.relN_len pl k l
 rw[<-e1]at hl
 obtain⟨a,b⟩:=hl.seta h.pp ((Vm.relN_at hk).trans hx) (pl x.a.toNat:Int)
 rw[e1]at a
 refine⟨h.be.setCell (zG h.ld.cr g rfl) _,?_,h.pg,b⟩
 rw[Vm.relN_next hx]
 have e2:Vm.rl pl x=⟨x.op,(pl x.a.toNat:Int),x.b⟩:=by
  have h1:=Vm.rl_g pl x hg
  have h2:=Vm.rl_op pl x
  have h3:=Vm.rl_b pl x
  cases hr:Vm.rl pl x with
  | mk o' a' b' =>
   rw[hr]at h1 h2 h3
   rw[show o'=x.op from h2,show a'=_ from h1,show b'=x.b from h3]
 rw[e2]
 exact a
theorem S2.stay {w0 wr:World}{cn pb lb eb nx:Nat}{l:List In}{pl:Nat->Nat}{e:Nat}{v:Value}{k:Nat}{x:In}(h:S2 w0 wr cn pb lb eb nx l pl e v k) (hx:l[k]?=some x) (hg:¬Vm.Go8 x):S2 w0 wr cn pb lb eb nx l pl e v (k+1):=by
 have hk:=(List.getElem?_eq_some_iff.1 hx).1
 have e1:Vm.relN pl (k+1) l=Vm.relN pl k l:=by
  rw[Vm.relN_next hx,Vm.rl_a pl x (fun q=>hg (Or.inl q)) (fun q=>hg (Or.inr q))]
  have h2:=(Vm.relN_at (pl:=pl) hk).trans hx
  have h3:=(List.getElem?_eq_some_iff.1 h2).2
  rw[<-h3,List.set_getElem_self]
 exact⟨h.be,by rw[e1];exact h.ld,h.pg,h.pp⟩
theorem Ld.far {w:World}{n lb eb nx e pb k b j:Nat}{cs:List In}{pl:Nat->Nat}{v u:Value}(h:Ld w n lb eb nx e cs v) (hp:Pls w pb pl k) (hn:n<=pb) (hb:b<n):Ld (w.setCell ⟨b,j,none⟩ u) n lb eb nx e cs v/\Pls (w.setCell ⟨b,j,none⟩ u) pb pl k:=by
 have k1:∀ c,c≠b->(w.setCell ⟨b,j,none⟩ u).heap[c]?=w.heap[c]?:=fun c hc=>Below.heap_setCell _ _ _ _ (by exact hc)
 have h1:=h.nl
 have h2:=h.ne
 exact⟨⟨h.nl,h.ne,(k1 _ (by omega)).trans h.lk,(k1 _ (by omega)).trans h.ek,z7 h.cr fun c hc _ _=>k1 c (by omega)⟩,hp.of (k1 _ (by omega))⟩
structure S3 (w0 wr:World) (n wb ob cn pb lb eb nx j:Nat) (o:O) (L:List In) (pl:Nat->Nat) (e:Nat) (sv uv vv nv pv cv v:Value):Prop where
 wk:WK w0 wr n wb ob (entN pl j o) sv uv vv nv pv cv cv
 ld:Ld wr w0.heap.size lb eb nx e L v
 pg:w0.heap.size<=pb
 pp:Pls wr pb pl cn
theorem S3.on {w0 wr w':World}{n wb ob cn pb lb eb nx j:Nat}{o:O}{L:List In}{pl:Nat->Nat}{e:Nat}{sv uv vv nv pv cv v:Value}(h:S3 w0 wr n wb ob cn pb lb eb nx j o L pl e sv uv vv nv pv cv v) (b:Below wr.heap.size wr w'):S3 w0 w' n wb ob cn pb lb eb nx j o L pl e sv uv vv nv pv cv v:=⟨h.wk.on b,h.ld.on b,h.pg,h.pp.of (b.block _ h.pp.lt)⟩
theorem S3.go {w0 wr:World}{n wb ob cn pb lb eb nx j g cap:Nat}{o:O}{L:List In}{pl:Nat->Nat}{e:Nat}{sv uv vv nv cv v:Value}(h:S3 w0 wr n wb ob cn pb lb eb nx j o L pl e sv uv vv nv (.slice (some ⟨g,0,none⟩) o.procs.length cap) cv v) (hg:g<w0.heap.size) {en:Ob.En}(he:o.procs[j]?=some en):S3 w0 (wr.setCell ⟨g,j * 3,none⟩ (.int .i64 (pl en.at'.toNat:Int))) n wb ob cn pb lb eb nx (j+1) o L pl e sv uv vv nv (.slice (some ⟨g,0,none⟩) o.procs.length cap) cv v:=by
 obtain⟨a,b⟩:=h.ld.far (j:=j * 3) (u:=.int .i64 (pl en.at'.toNat:Int)) h.pp h.pg hg
 exact⟨h.wk.ent (Below.refl _ _) he,a,h.pg,b⟩
theorem S3.start {w0 wr:World}{n wb ob cn pb lb eb nx:Nat}{o:O}{l:List In}{pl:Nat->Nat}{e:Nat}{sv uv vv nv pv cv v:Value}(h:Wo w0 n wb ob o sv uv vv nv pv cv) (k:S2 w0 wr cn pb lb eb nx l pl e v l.length):S3 w0 wr n wb ob cn pb lb eb nx 0 o (l.map (Vm.rl pl)) pl e sv uv vv nv pv cv v:=by
 have hl:=k.ld
 rw[Vm.relN_all]at hl
 exact⟨⟨by rw[vy];exact h.on k.be,(Kpt.refl w0 ob pv cv).on k.be⟩,hl,k.pg,k.pp⟩
theorem S3.done {w0 wr:World}{n wb ob cn pb lb eb nx:Nat}{o:O}{l:List In}{pl:Nat->Nat}{e:Nat}{sv uv vv nv pv cv v:Value}(h:S3 w0 wr n wb ob cn pb lb eb nx o.procs.length o (l.map (Vm.rl pl)) pl e sv uv vv nv pv cv v) (h0:Wo w0 n wb ob o sv uv vv nv pv cv) (hn:n<=w0.heap.size):WK w0 (wr.setCell ⟨ob,6,none⟩ v) n wb ob (Vm.H o l pl) sv uv vv nv pv cv v:=by
 have hw:=h.wk.wo
 rw[entN_all]at hw
 have hob:=zk h0.ok
 have hwb:wb≠ob:=fun q=>by
  have h1:=h0.wk
  rw[q,h0.ok]at h1
  cases h1
 have n1:pv.ownBlock≠some ob:=zJ h0.pr h0.ok (by decide)
 have n2:v.ownBlock≠some ob:=fun q=>by have:=zG h.ld.cr _ q;omega
 have k1:∀ c,c≠ob->(wr.setCell ⟨ob,6,none⟩ v).heap[c]?=wr.heap[c]?:=fun c hc=>Below.heap_setCell _ _ _ _ (by exact hc)
 refine⟨⟨hw.nw,hw.no,(k1 _ hwb).trans hw.wk,zC 6 v hw.ok,z7 hw.pr fun b _ _ hb=>k1 b fun q=>n1 (q ▸ hb),yr (z7 h.ld.cr fun b _ _ hb=>k1 b fun q=>n2 (q ▸ hb)) hn⟩,?_⟩
 have hk:=h.wk.kp
 exact⟨hk.os,hk.tape,hk.output,by simpa[World.setCell] using hk.size,fun b h1 h2 h3 h4=>(k1 b h2).trans (hk.block b h1 h2 h3 h4),fun g q=>Or.inr (zG h.ld.cr g q)⟩
end Go.Proofs.YtmnedfdffbbchaaGreatDoor.Jo
