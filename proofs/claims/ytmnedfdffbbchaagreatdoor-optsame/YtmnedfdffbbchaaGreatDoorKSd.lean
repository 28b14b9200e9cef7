import Derived.Test.YtmnedfdffbbchaaGreatDoorKSc
import Derived.Deep.RegionLawGrows
set_option maxRecDepth 100000
set_option maxHeartbeats 4000000

namespace Go.Proofs.YtmnedfdffbbchaaGreatDoor.Jo
open Go.RowKit Go.Sort
open Ob (O In I64)
open Tp (Bs)
theorem Mk8.below {n:Nat}{w w':World}(h:Mk8 w) (hb:Below n w w') (hn:1<n):Mk8 w':=⟨Nat.lt_of_lt_of_le h.lt hb.size,fun i hi=>by
 rw[World.cell?_of_block (w:=w) (hb.block _ hn)]
 exact h.at' i hi⟩
theorem do_range {o:O}{x:In}(h:Ob.instB o x=true):x.op=9->0<=x.a/\x.a<11:=fun q=>by
 have:=(Vm.inst_b h (by omega) (by omega) (by omega)).2 (by omega)
 unfold Ob.choices at this
 rw[q]at this
 exact this
theorem WK.below {w w':World}{n wb ob:Nat}{o p:O}{sv uv vv nv pv cv cv':Value}(h:WK w w' n wb ob o sv uv vv nv pv cv cv') (h0:Wo w n wb ob p sv uv vv nv pv cv) (hn:n<=w.heap.size):Below n w w':=h.kp.below hn h0.no (fun g q=>zG h0.pr g q) fun g q=>zG h0.cr g q
theorem xZ {c:List In}{i:Nat}{x y:In}(hx:c.getD i Vm.in0=x) (hy:c.getD (i+1) Vm.in0=y) (h:y.op≠12\/y.a=0\/Vm.goonB x=false\/y.a.toNat - 1=i\/c.getD (y.a.toNat - 1) Vm.in0≠x):Vm.shC c i=false:=by
 unfold Vm.shC
 rw[hx,hy]
 rw[Bool.and_eq_false_iff,Bool.and_eq_false_iff,Bool.and_eq_false_iff,Bool.and_eq_false_iff,Bool.and_eq_false_iff,Bool.and_eq_false_iff]
 rcases h with h|h|h|h|h
 ·exact Or.inl (decide_eq_false h)
 ·exact Or.inr (Or.inl (decide_eq_false fun q=>q h))
 ·exact Or.inr (Or.inr (Or.inl h))
 ·exact Or.inr (Or.inr (Or.inr (Or.inl (decide_eq_false fun q=>q h))))
 ·refine Or.inr (Or.inr (Or.inr (Or.inr ?_)))
  by_cases h1:(c.getD (y.a.toNat - 1) Vm.in0).op=x.op
  ·by_cases h2:(c.getD (y.a.toNat - 1) Vm.in0).a=x.a
   ·by_cases h3:(c.getD (y.a.toNat - 1) Vm.in0).b=x.b
    ·exact absurd (Vm.sameI_eq ⟨h1,h2,h3⟩) h
    ·exact Or.inr (Or.inr (decide_eq_false h3))
   ·exact Or.inr (Or.inl (decide_eq_false h2))
  ·exact Or.inl (decide_eq_false h1)
theorem shC_yes {c:List In}{i:Nat}{x y:In}(hx:c.getD i Vm.in0=x) (hy:c.getD (i+1) Vm.in0=y) (h1:y.op=12) (h2:y.a≠0) (h3:Vm.goonB x=true) (h4:y.a.toNat - 1≠i) (h5:c.getD (y.a.toNat - 1) Vm.in0=x):Vm.shC c i=true:=by
 unfold Vm.shC
 rw[hx,hy,h5,h3,decide_eq_true h1,decide_eq_true h2,decide_eq_true h4]
 simp
theorem j8 {B:Nat}{a w:World}(h:Below B a w) (n:Nat):Below B a (w.drewN n):=⟨h.os,h.tape,h.output,h.size,h.block⟩
structure Two (w wc:World) (b3 b4:Nat) (x y:In):Prop where
 be:Below w.heap.size w wc
 l3:w.heap.size<=b3
 l4:w.heap.size<=b4
 ne:b3≠b4
 h3:wc.heap[b3]?=some (.cells #[.int .i64 x.op,.int .i64 x.a,.int .i64 x.b] 68 (0,0))
 h4:wc.heap[b4]?=some (.cells #[.int .i64 y.op,.int .i64 y.a,.int .i64 y.b] 68 (0,0))
theorem two_new (w:World) (x y:In):Hid (Two w ((w.alloc (.cells #[.int .i64 x.op,.int .i64 x.a,.int .i64 x.b] 68)).alloc (.cells #[.int .i64 y.op,.int .i64 y.a,.int .i64 y.b] 68)).drew w.heap.size (w.heap.size+1) x y):=by
 obtain⟨w0,hw0⟩:∃ w0,w0=w.alloc (.cells #[.int .i64 x.op,.int .i64 x.a,.int .i64 x.b] 68):=⟨_,rfl⟩
 rw[<-hw0]
 have hs0:w0.heap.size=w.heap.size+1:=by rw[hw0];show (w.heap.push _).size=_;rw[Array.size_push]
 have hb:Below w.heap.size w w0:=by rw[hw0];exact zb _ _
 have h3:w0.heap[w.heap.size]?=some (.cells #[.int .i64 x.op,.int .i64 x.a,.int .i64 x.b] 68 (0,0)):=by rw[hw0];exact zw w _
 refine⟨(hb.alloc hb.size _).drew,Nat.le_refl _,by omega,by omega,(Below.heap_alloc _ _ _ (by omega)).trans h3,?_⟩
 rw[<-hs0]
 exact zw w0 _
theorem two_swap {w wc:World}{b3 b4:Nat}{x y:In}(h:Hid (Two w wc b3 b4 x y)):Hid (Two w wc b4 b3 y x):=⟨h.out.be,h.out.l4,h.out.l3,h.out.ne.symm,h.out.h4,h.out.h3⟩
theorem share_any {w:World}{n wb ob:Nat}{o:O}{sv uv vv nv pv cv:Value}(hR:Vm.Rg o) (h:Wo w n wb ob o sv uv vv nv pv cv) (hn:n<=w.heap.size) (hm:Mk8 w) (hG:1<n):Calls Tryz.prog 55 #[.pointer (some ⟨wb,0,none⟩)] w (WKP w n wb ob (Vm.shO o) sv uv vv nv pv cv):=by
 have hO:=(Vm.rg_okc hR).1
 have hne:0<o.code.length:=by
  obtain⟨z,h1,_⟩:=hO.last
  cases hc:o.code with
  | nil=>rw[show (Vm.nu o).code=o.code from rfl,hc]at h1;cases h1
  | cons _ _=>simp
 obtain⟨g,cap,rfl,-,hca⟩:=h.code hne
 have hn4:o.code.length<=4000:=hO.n4
 obtain⟨ln,hln⟩:∃ ln,ln+1=o.code.length:=⟨o.code.length - 1,by omega⟩
 have HCP:Hid ((ln:Int)+1<=cap):=by show _<=_;have:=hca.lc;omega
 have k0:=hca.k0
 have k6:=hca.k6
 have lw:=zi k0
 have lo:=zi k6
 have HI0:Hid (WK w w n wb ob o sv uv vv nv pv (.slice (some ⟨g,0,none⟩) (ln+1) cap) (.slice (some ⟨g,0,none⟩) (ln+1) cap)/\Vm.Rg o/\o.code.length=ln+1/\Vm.shN ln o=Vm.shO o):=⟨⟨by rw[hln];exact h,Kpt.refl _ _ _ _⟩,hR,hln.symm,by unfold Vm.shO;rw[<-hln];rfl⟩
 obtain⟨so,hso⟩:∃ so,so=Vm.shO o:=⟨_,rfl⟩
 have HMK:Hid (∀(W:World) (p:O),WK w W n wb ob p sv uv vv nv pv (.slice (some ⟨g,0,none⟩) o.code.length cap) (.slice (some ⟨g,0,none⟩) o.code.length cap)->Mk8 W):=fun W p hk=>hm.below (hk.below h hn) hG
 rw[<-hso]at HI0 ⊢
 rw[<-hln]at k6 HMK ⊢
 have hl4:(ln:Int)+1<=4000:=by omega
 have hsub:((ln+1:Nat):Int) - 2=(ln:Int) - 1:=by omega
 clear hO hR h hca hne hln hn4 hn hm hG hso
 go_enter Tryz.func55,Tryz.ntmps55
 go_wp2_with fail
 go_loopg [2] ln (fun k vi wr=>∃ p:O,k<=ln/\vi=.int .i64 ((k:Int) - 1)/\Hid (WK w wr n wb ob p sv uv vv nv pv (.slice (some ⟨g,0,none⟩) (ln+1) cap) (.slice (some ⟨g,0,none⟩) (ln+1) cap)/\Vm.Rg p/\p.code.length=ln+1/\Vm.shN k p=so))
 case atStart=>exact⟨o,by omega,by go_num,HI0⟩
 case round =>
  obtain⟨p,hk,rfl,HI⟩:=hrel
  cases gk with
  | zero =>
   have HFIN:Hid (WK w wr n wb ob so sv uv vv nv pv (.slice (some ⟨g,0,none⟩) (ln+1) cap) (.slice (some ⟨g,0,none⟩) (ln+1) cap)):=by
    show WK _ _ _ _ _ _ _ _ _ _ _ _ _
    rw[<-HI.out.2.2.2]
    exact HI.out.1
   clear HI
   go_wp2_with fail
   exact ze rfl rfl ⟨rfl,_,HFIN.out⟩
  | succ i =>
   obtain⟨hwk,hr,hpl,hsn⟩:=HI.out
   have hir:((i+1:Nat):Int) - 1=(i:Int):=by omega
   rw[hir]
   have hi1:i+1<p.code.length:=by omega
   have hx:=Vm.get_d (c:=p.code) (i:=i) (by omega)
   have hy:=Vm.get_d (c:=p.code) hi1
   have hwo:Wo wr n wb ob p sv uv vv nv pv (.slice (some ⟨g,0,none⟩) p.code.length cap):=by rw[hpl];exact hwk.wo
   have hst:=Vm.shS_stp hr hi1
   have hsl:=Vm.shS_len i p
   have hsn':Vm.shN i (Vm.shS i p)=so:=hsn
   have hMK:=HMK.out wr p hwk
   obtain⟨r0,r6,d0,d1,d2,rf,rl,ro,rg⟩:=hwo.rw (Below.refl _ _) hx
   obtain⟨-,-,e0,e1,e2,-,-,-,-⟩:=hwo.rw (Below.refl _ _) hy
   rw[hpl]at r6
   have HNO:Hid (Vm.shC p.code i=false->∀ W,Below wr.heap.size wr W->WK w W n wb ob (Vm.shS i p) sv uv vv nv pv (.slice (some ⟨g,0,none⟩) (ln+1) cap) (.slice (some ⟨g,0,none⟩) (ln+1) cap)/\Vm.Rg (Vm.shS i p)/\(Vm.shS i p).code.length=ln+1/\Vm.shN i (Vm.shS i p)=so):=fun q W hb=>by
    have e:Vm.shS i p=p:=by unfold Vm.shS;rw[if_neg (by rw[q];exact Bool.noConfusion)]
    rw[e]
    exact⟨hwk.on hb,hr,hpl,by rw[<-hsn',e]⟩
   have hii:(i:Int)<(ln:Int):=by omega
   have hcp:=HCP.out
   have hii1:(i:Int)<(ln:Int)+1:=by omega
   have hii2:(i:Int)+1<(ln:Int)+1:=by omega
   have hii4:0<=(i:Int)+1:=by omega
   have hwr:IntKind.i64.wrap ((i:Int)+1)=((i+1:Nat):Int):=by rw[xq (by omega) (by omega)];rfl
   have hii3:((i+1:Nat):Int)<(ln:Int)+1:=by omega
   have HGO:=zh (fun W (hb:Below wr.heap.size wr W)=>goesOn_any (w:=W) (x:=p.code.getD i Vm.in0) (b:=Vm.goonB (p.code.getD i Vm.in0)) (hMK.on hb) (do_range (by
    obtain⟨_,hin⟩:=Vm.rg_okc hr
    exact hin _ (List.mem_of_getElem? hx))) rfl)
   have hlab:=(Vm.rg_okc hr).1.lab _ (List.mem_of_getElem? hy)
   have hlab:Vm.Go8 (p.code.getD (i+1) Vm.in0)->0<=(p.code.getD (i+1) Vm.in0).a/\(p.code.getD (i+1) Vm.in0).a.toNat<p.code.length:=hlab
   generalize hxx:p.code.getD i Vm.in0=x at *
   generalize hyy:p.code.getD (i+1) Vm.in0=y at *
   obtain⟨xo,xa,xb⟩:=x
   obtain⟨yo,ya,yb⟩:=y
   have HS:Hid (∀ W,Below wr.heap.size wr W->W.cell? ⟨wb,0,none⟩=some (.pointer (some ⟨ob,0,none⟩))/\W.cell? ⟨ob,6,none⟩=some (.slice (some ⟨g,0,none⟩) (ln+1) cap)/\W.cell? ⟨g,i * 3,none⟩=some (.int .i64 xo)/\W.cell? ⟨g,i * 3+1,none⟩=some (.int .i64 xa)/\W.cell? ⟨g,i * 3+2,none⟩=some (.int .i64 xb)/\W.cell? ⟨g,(i+1) * 3,none⟩=some (.int .i64 yo)/\W.cell? ⟨g,(i+1) * 3+1,none⟩=some (.int .i64 ya)/\W.cell? ⟨g,(i+1) * 3+2,none⟩=some (.int .i64 yb)):=fun W hb=>⟨zv hb r0,zv hb r6,zv hb d0,zv hb d1,zv hb d2,zv hb e0,zv hb e1,zv hb e2⟩
   have HNX:Hid (Vm.shC p.code i=true->∀ W,Below wr.heap.size wr W->WK w (set3 W g (i * 3) ⟨12,(((p.code.getD (i+1) Vm.in0).a.toNat - 1:Nat):Int),0⟩) n wb ob (Vm.shS i p) sv uv vv nv pv (.slice (some ⟨g,0,none⟩) (ln+1) cap) (.slice (some ⟨g,0,none⟩) (ln+1) cap)/\Vm.Rg (Vm.shS i p)/\(Vm.shS i p).code.length=ln+1/\Vm.shN i (Vm.shS i p)=so):=fun q W hb=>by
    have e:Vm.shS i p=Vm.setC p i ⟨12,(((p.code.getD (i+1) Vm.in0).a.toNat - 1:Nat):Int),0⟩:=by unfold Vm.shS;rw[if_pos q]
    refine⟨?_,hst.rg,hsl.trans hpl,hsn'⟩
    rw[e]
    have hwk':WK w wr n wb ob p sv uv vv nv pv (.slice (some ⟨g,0,none⟩) (ln+1) cap) (.slice (some ⟨g,0,none⟩) p.code.length cap):=by rw[hpl];exact hwk
    have:=hwk'.put hb (i:=i) (by omega) ⟨12,(((p.code.getD (i+1) Vm.in0).a.toNat - 1:Nat):Int),0⟩
    rw[hpl]at this
    exact this
   have HRW:Hid (∀ t,t<p.code.length->∀ W,Below wr.heap.size wr W->Rw W wb ob g cap (ln+1) t (p.code.getD t Vm.in0)):=fun t ht W hb=>by have:=hwo.rw hb (Vm.get_d ht);rw[hpl]at this;exact this
   rw[hyy]at HNX
   rw[hpl]at HRW hlab
   clear hwk hst hMK HI hr hsn hsn' hsl hwo hx hy
   go_upto_region 3 with fail
   go_cut [3,4] (fun s3 s4 wc=>∃ b3 b4:Nat,s3=.pointer (some ⟨b3,0,none⟩)/\s4=.pointer (some ⟨b4,0,none⟩)/\Hid (Two wr wc b3 b4 ⟨xo,xa,xb⟩ ⟨yo,ya,yb⟩))
   case first =>
    go_region_held3 (fun W=>W.cell? ⟨wb,0,none⟩=some (.pointer (some ⟨ob,0,none⟩))/\W.cell? ⟨ob,6,none⟩=some (.slice (some ⟨g,0,none⟩) (ln+1) cap)/\W.cell? ⟨g,i * 3,none⟩=some (.int .i64 xo)/\W.cell? ⟨g,i * 3+1,none⟩=some (.int .i64 xa)/\W.cell? ⟨g,i * 3+2,none⟩=some (.int .i64 xb)/\W.cell? ⟨g,(i+1) * 3,none⟩=some (.int .i64 yo)/\W.cell? ⟨g,(i+1) * 3+1,none⟩=some (.int .i64 ya)/\W.cell? ⟨g,(i+1) * 3+2,none⟩=some (.int .i64 yb)) (first|exact HS.out _ (zt _)|exact HS.out _ ((zb _ _).drew)|exact HS.out _ (((zb _ _).alloc (by simp) _).drew)) (fail)
    ·go_wp2_with fail
     go_meet
     case rel=>exact⟨_,_,rfl,rfl,two_new wr ⟨xo,xa,xb⟩ ⟨yo,ya,yb⟩⟩
    ·go_wp2_with fail
     go_meet
     case rel=>exact⟨_,_,rfl,rfl,two_swap (two_new wr ⟨yo,ya,yb⟩ ⟨xo,xa,xb⟩)⟩
   case rest =>
    obtain⟨b3,b4,rfl,rfl,HT⟩:=hcut
    obtain⟨m0,m1,m2,m3,-⟩:=in3 HT.out.h3
    obtain⟨n0,n1,n2,n3,-⟩:=in3 HT.out.h4
    obtain⟨r0',r6',d0',d1',d2',-,-,-⟩:=HS.out wc HT.out.be
    have rl':=zi r0'
    have ro':=zi r6'
    have rg':=zi d0'
    have hgo:=HGO.out wc HT.out.be
    clear r0 r6 d0 d1 d2 rf rl ro rg e0 e1 e2 HGO
    by_cases y12:yo=12
    ·subst y12
     obtain⟨l0,l1⟩:=hlab (Or.inl rfl)
     obtain⟨t1,ht1⟩:=Int.eq_ofNat_of_zero_le l0
     have ht1:ya=(t1:Int):=ht1
     subst ht1
     have l1:t1<ln+1:=l1
     by_cases t0:t1=0
     ·subst t0
      have HN1:=zh (HNO.out (xZ hxx hyy (Or.inr (Or.inl rfl))) wc HT.out.be)
      clear HNO hgo hxx hyy hlab hpl HNX HRW
      go_wp2_with fail
      go_roundg i
      case measure=>omega
      case rel=>exact⟨_,by omega,by go_num,HN1⟩
     ·obtain⟨t,rfl⟩:∃ t,t1=t+1:=⟨t1 - 1,by omega⟩
      have hc1:((t+1:Nat):Int)=(t:Int)+1:=by omega
      rw[hc1]at n2
      have ht4:(t:Int)<(ln:Int)+1:=by omega
      have ht0:¬(t:Int)+1=0:=by omega
      have kt0:((t:Int)+1 == 0)=false:=beq_false_of_ne ht0
      have hsb:IntKind.i64.wrap ((t:Int)+1 - 1)=(t:Int):=by rw[show (t:Int)+1 - 1=(t:Int) by omega];exact xq (by omega) (by omega)
      have hta:((⟨12,((t+1:Nat):Int),yb⟩:In).a.toNat - 1:Nat)=t:=by show ((t+1:Nat):Int).toNat - 1=t;omega
      have HG:=zh hgo
      unfold iA at HG
      clear hgo
      cases hgb:Vm.goonB ⟨xo,xa,xb⟩ with
      | false =>
       rw[hgb]at HG
       have HNN:=zh (HNO.out (xZ hxx hyy (Or.inr (Or.inr (Or.inl hgb)))))
       clear HNO hxx hyy hlab hpl HNX HRW
       go_wp2_with fail
       refine HG.out.mono ?_
       rintro e w2 ⟨rfl,hb2⟩
       have HN1:=zh (HNN.out w2 (HT.out.be.trans (hb2.mono HT.out.be.size)))
       clear hb2 HNN
       go_wp2_with fail
       go_roundg i
       case measure=>omega
       case rel=>exact⟨_,by omega,by go_num,HN1⟩
      | true =>
       rw[hgb]at HG
       obtain⟨z,hz⟩:∃ z,z=p.code.getD t Vm.in0:=⟨_,rfl⟩
       have hrw:=HRW.out t (by omega)
       rw[<-hz]at hrw
       have HXT:Hid (∀ W,Below wc.heap.size wc W->Below wr.heap.size wr W/\W.cell? ⟨b3,0,none⟩=some (.int .i64 xo)/\W.cell? ⟨b3,1,none⟩=some (.int .i64 xa)/\W.cell? ⟨b3,2,none⟩=some (.int .i64 xb)/\W.cell? ⟨b4,0,none⟩=some (.int .i64 12)/\W.cell? ⟨b4,1,none⟩=some (.int .i64 ((t:Int)+1))/\Rw W wb ob g cap (ln+1) t z):=fun W hb=>⟨HT.out.be.trans (hb.mono HT.out.be.size),zv hb m1,zv hb m2,zv hb m3,zv hb n1,zv hb n2,hrw W (HT.out.be.trans (hb.mono HT.out.be.size))⟩
       by_cases ti:t=i
       ·have HNN:=zh (HNO.out (xZ hxx hyy (Or.inr (Or.inr (Or.inr (Or.inl (hta.trans ti)))))))
        clear HNO hxx hyy hlab hpl HNX HRW hrw hta hz
        subst ti
        have kti:((t:Int) == (t:Int))=true:=beq_self_eq_true _
        have ktn:((t:Int) != (t:Int))=false:=bne_self_eq_false _
        have hnt:(!true)=false:=rfl
        go_wp2_with fail
        refine HG.out.mono ?_
        rintro e w2 ⟨rfl,hb2⟩
        obtain⟨hbw,q3,q4,q5,q6,q7,⟨z0,z6,zc0,zc1,zc2,zf,zl,zo,zg⟩⟩:=HXT.out w2 hb2
        have HBW:=zh hbw
        have q3l:=zi q3
        have q6l:=zi q6
        clear hb2 hbw HXT
        go_wp2_with fail
        go_quiet (fail)
        all_goals
         have HN1:=zh (HNN.out (w2.drewN nq) (j8 HBW.out nq))
         go_wp2_with fail
         go_roundg t
         case measure=>omega
         case rel=>exact⟨_,by omega,by go_num,HN1⟩
       ·have kti:((t:Int) == (i:Int))=false:=beq_false_of_ne (by omega)
        have kti':¬(t:Int)=(i:Int):=by omega
        by_cases hzx:z=⟨xo,xa,xb⟩
        ·have HNN:=zh (HNX.out (shC_yes hxx hyy rfl (by show ¬((t+1:Nat):Int)=0;omega) hgb (by rw[hta];exact ti) (by rw[hta,<-hz];exact hzx)))
         rw[hta]at HNN
         have E:=yt true xo xa xb xo xa xb (by simp)
         have HJ:=zh (fun W=>kY (n:=(t:Int)) (by unfold I64;omega) W)
         unfold iA at HJ
         unfold set3 at HNN
         have HRI:=zh (HRW.out i (by omega))
         rw[hxx]at HRI
         subst hzx
         clear HNO hxx hyy hlab hpl HNX HRW hrw hta hz
         go_wp2_with fail
         refine HG.out.mono ?_
         rintro e w2 ⟨rfl,hb2⟩
         obtain⟨hbw,q3,q4,q5,q6,q7,⟨z0,z6,zc0,zc1,zc2,zf,zl,zo,zg⟩⟩:=HXT.out w2 hb2
         have HBW:=zh hbw
         have q3l:=zi q3
         have q6l:=zi q6
         clear hb2 hbw HXT
         go_wp2_with fail
         go_quiet (fail)
         all_goals
          obtain⟨-,-,p0,p1,p2,pf,-,-,-⟩:=HRI.out (w2.drewN nq) (j8 HBW.out nq)
          go_wp2_with fail
          go_region_law (first|(refine zI rfl ?_;go_simp;go_at_call 88;refine(HJ.out _).mono ?_;rintro e w3 ⟨rfl,hb3⟩;have hb3':Below wr.heap.size wr w3:=(j8 HBW.out nq).drew.trans (hb3.mono HBW.out.size);obtain⟨v0,v6,e0,e1,e2,ef,el,eo,eg⟩:=HRI.out w3 hb3';have HN1:=zh (HNN.out w3 hb3');clear hb3 hb3' HNN))
          all_goals
           go_wp2_with fail
           go_roundg i
           case measure=>omega
           case rel=>exact⟨_,by omega,by go_num,HN1⟩
        ·have HNN:=zh (HNO.out (xZ hxx hyy (Or.inr (Or.inr (Or.inr (Or.inr (by rw[hta,<-hz];exact hzx)))))))
         obtain⟨zop,za,zb⟩:=z
         have E:=yl (a:=zop) (b:=za) (c:=zb) (a':=xo) (b':=xa) (c':=xb) (fun q=>hzx (by rw[q.1,q.2.1,q.2.2]))
         clear HNO hxx hyy hlab hpl HNX HRW hrw hta hz hzx
         go_wp2_with fail
         refine HG.out.mono ?_
         rintro e w2 ⟨rfl,hb2⟩
         obtain⟨hbw,q3,q4,q5,q6,q7,⟨z0,z6,zc0,zc1,zc2,zf,zl,zo,zg⟩⟩:=HXT.out w2 hb2
         have HBW:=zh hbw
         have q3l:=zi q3
         have q6l:=zi q6
         clear hb2 hbw HXT
         go_wp2_with fail
         go_quiet (fail)
         all_goals
          have HN1:=zh (HNN.out (w2.drewN nq) (j8 HBW.out nq))
          go_wp2_with fail
          go_roundg i
          case measure=>omega
          case rel=>exact⟨_,by omega,by go_num,HN1⟩
    ·have HN:=HNO.out (xZ hxx hyy (Or.inl y12)) wc HT.out.be
     have HN1:=zh HN
     have ky:(yo == 12)=false:=beq_false_of_ne y12
     clear HNO hgo hxx hyy hlab hpl HN HNX HRW
     go_wp2_with fail
     go_roundg i
     case measure=>omega
     case rel=>exact⟨_,by omega,by go_num,HN1⟩
theorem xY {w:World}{g off cap nx:Nat}{x y:In}(hm:Mk8 w) (hi:I64 y.a) (hx:x.op=9->0<=x.a/\x.a<11) (hy:y.op=9->0<=y.a/\y.a<11) (c0:w.cell? ⟨g,off,none⟩=some (.int .i64 x.op)) (c1:w.cell? ⟨g,off+1,none⟩=some (.int .i64 x.a)) (c2:w.cell? ⟨g,off+2,none⟩=some (.int .i64 x.b)) (c3:w.cell? ⟨g,off+3,none⟩=some (.int .i64 y.op)) (c4:w.cell? ⟨g,off+4,none⟩=some (.int .i64 y.a)) (c5:w.cell? ⟨g,off+5,none⟩=some (.int .i64 y.b)) (hcap:2<=cap):Calls Tryz.prog 119 #[.slice (some ⟨g,off,none⟩) 2 cap,.int .i64 (nx:Int)] w (ByP w (Vm.two x y)):=by
 have HC:Hid (∀ W,Below w.heap.size w W->Calls Tryz.prog 130 #[iA x,iA y] W (ByP W (Vm.two x y))):=fun W hb=>two_any (hm.on hb) hi hx hy
 have HS:Hid (∀ W,Below w.heap.size w W->W.cell? ⟨g,off,none⟩=some (.int .i64 x.op)/\W.cell? ⟨g,off+1,none⟩=some (.int .i64 x.a)/\W.cell? ⟨g,off+2,none⟩=some (.int .i64 x.b)/\W.cell? ⟨g,off+3,none⟩=some (.int .i64 y.op)/\W.cell? ⟨g,off+4,none⟩=some (.int .i64 y.a)/\W.cell? ⟨g,off+5,none⟩=some (.int .i64 y.b)):=fun W hb=>⟨zv hb c0,zv hb c1,zv hb c2,zv hb c3,zv hb c4,zv hb c5⟩
 generalize Vm.two x y=r at *
 obtain⟨xo,xa,xb⟩:=x
 obtain⟨yo,ya,yb⟩:=y
 unfold iA at HC
 have HS0:=zh (HS.out _ (zt w))
 have HC0:=zh (HC.out _ (zt w))
 have hgl:=zi c0
 have hcp:(2:Int)<=cap:=by omega
 clear hm hi hx hy HC
 go_enter Tryz.func119,Tryz.ntmps119
 go_wp2_with fail
 go_region_held3 (fun W=>W.cell? ⟨g,off,none⟩=some (.int .i64 xo)/\W.cell? ⟨g,off+1,none⟩=some (.int .i64 xa)/\W.cell? ⟨g,off+2,none⟩=some (.int .i64 xb)/\W.cell? ⟨g,off+3,none⟩=some (.int .i64 yo)/\W.cell? ⟨g,off+4,none⟩=some (.int .i64 ya)/\W.cell? ⟨g,off+5,none⟩=some (.int .i64 yb)) (first|exact HS0.out|exact HS.out _ HB.out) (first|(go_at_call 130;refine HC0.out.mono ?_;intro e w4 hq;obtain⟨v,ok,rfl,hb2,h3,h4⟩:=hq;have HB:Hid (Below w.heap.size w w4):=(zt w).trans hb2;have HF:Hid (ByP w r (.returned (.tuple #[v,.bool ok])) w4):=ByP.ahead (zt w) ⟨v,ok,rfl,hb2,h3,h4⟩;clear h3 h4 hb2))
 all_goals
  go_wp2_with fail
  go_ret2
  exact HF.out
theorem xX {w:World}{g off cap nx:Nat}{x y z:In}(hm:Mk8 w) (hi:I64 x.a) (hib:I64 y.a) (hnx:nx<=100000) (hx:x.op=9->0<=x.a/\x.a<11) (hy:z.op=9->0<=z.a/\z.a<11) (c0:w.cell? ⟨g,off,none⟩=some (.int .i64 x.op)) (c1:w.cell? ⟨g,off+1,none⟩=some (.int .i64 x.a)) (c2:w.cell? ⟨g,off+2,none⟩=some (.int .i64 x.b)) (c3:w.cell? ⟨g,off+3,none⟩=some (.int .i64 y.op)) (c4:w.cell? ⟨g,off+4,none⟩=some (.int .i64 y.a)) (c5:w.cell? ⟨g,off+5,none⟩=some (.int .i64 y.b)) (c6:w.cell? ⟨g,off+6,none⟩=some (.int .i64 z.op)) (c7:w.cell? ⟨g,off+7,none⟩=some (.int .i64 z.a)) (c8:w.cell? ⟨g,off+8,none⟩=some (.int .i64 z.b)) (hcap:3<=cap):Calls Tryz.prog 119 #[.slice (some ⟨g,off,none⟩) 3 cap,.int .i64 (nx:Int)] w (ByP w (Vm.three nx x y z)):=by
 have HC:Hid (∀ W,Below w.heap.size w W->Calls Tryz.prog 131 #[iA x,iA y,iA z,.int .i64 (nx:Int)] W (ByP W (Vm.three nx x y z))):=fun W hb=>three_any (hm.on hb) hi hib hnx hx hy
 have HS:Hid (∀ W,Below w.heap.size w W->W.cell? ⟨g,off,none⟩=some (.int .i64 x.op)/\W.cell? ⟨g,off+1,none⟩=some (.int .i64 x.a)/\W.cell? ⟨g,off+2,none⟩=some (.int .i64 x.b)/\W.cell? ⟨g,off+3,none⟩=some (.int .i64 y.op)/\W.cell? ⟨g,off+4,none⟩=some (.int .i64 y.a)/\W.cell? ⟨g,off+5,none⟩=some (.int .i64 y.b)/\W.cell? ⟨g,off+6,none⟩=some (.int .i64 z.op)/\W.cell? ⟨g,off+7,none⟩=some (.int .i64 z.a)/\W.cell? ⟨g,off+8,none⟩=some (.int .i64 z.b)):=fun W hb=>⟨zv hb c0,zv hb c1,zv hb c2,zv hb c3,zv hb c4,zv hb c5,zv hb c6,zv hb c7,zv hb c8⟩
 generalize Vm.three nx x y z=r at *
 obtain⟨xo,xa,xb⟩:=x
 obtain⟨yo,ya,yb⟩:=y
 obtain⟨zo,za,zb⟩:=z
 unfold iA at HC
 have HS0:=zh (HS.out _ (zt w))
 have HC0:=zh (HC.out _ (zt w))
 have hgl:=zi c0
 have hcp:(3:Int)<=cap:=by omega
 clear hm hi hib hnx hx hy HC
 go_enter Tryz.func119,Tryz.ntmps119
 go_wp2_with fail
 go_region_held3 (fun W=>W.cell? ⟨g,off,none⟩=some (.int .i64 xo)/\W.cell? ⟨g,off+1,none⟩=some (.int .i64 xa)/\W.cell? ⟨g,off+2,none⟩=some (.int .i64 xb)/\W.cell? ⟨g,off+3,none⟩=some (.int .i64 yo)/\W.cell? ⟨g,off+4,none⟩=some (.int .i64 ya)/\W.cell? ⟨g,off+5,none⟩=some (.int .i64 yb)/\W.cell? ⟨g,off+6,none⟩=some (.int .i64 zo)/\W.cell? ⟨g,off+7,none⟩=some (.int .i64 za)/\W.cell? ⟨g,off+8,none⟩=some (.int .i64 zb)) (first|exact HS0.out|exact HS.out _ HB.out) (first|(go_at_call 131;refine HC0.out.mono ?_;intro e w4 hq;obtain⟨v,ok,rfl,hb2,h3,h4⟩:=hq;have HB:Hid (Below w.heap.size w w4):=(zt w).trans hb2;have HF:Hid (ByP w r (.returned (.tuple #[v,.bool ok])) w4):=ByP.ahead (zt w) ⟨v,ok,rfl,hb2,h3,h4⟩;clear h3 h4 hb2))
 all_goals
  go_wp2_with fail
  go_ret2
  exact HF.out
theorem free_any {w:World}{lb eb n e:Nat}{a:Option Addr}{cap:Nat}{k:Nat}(h0:w.cell? ⟨lb,0,none⟩=some (.slice a k cap)) (h1:w.cell? ⟨eb,0,none⟩=some (.int .i64 (e:Int))) (hk:k<=100000) (hn:n<=3):Calls Tryz.prog 81 #[.int .i64 (n:Int),.pointer (some ⟨lb,0,none⟩),.pointer (some ⟨eb,0,none⟩)] w fun ed w'=>ed=.returned (.bool (decide ((e:Int)<=(k:Int) - (n:Int))))/\w'=w:=by
 have hl:=zi h0
 have hl':=zi h1
 have hs:IntKind.i64.wrap ((k:Int) - (n:Int))=(k:Int) - (n:Int):=xq (by omega) (by omega)
 go_enter Tryz.func81,Tryz.ntmps81
 go_wp2_with fail
 go_ret
 exact⟨rfl,rfl⟩
end Go.Proofs.YtmnedfdffbbchaaGreatDoor.Jo

namespace Vm
open Ob (O In)
open Tp (Bs)
structure Pre (o:O) (g e:Nat) (l:List In) (x:In):Prop where
 he:e<=l.length
 hl:∀ z∈l,OkI o.vars.length z
 hx:OkI o.vars.length x
 hi:Irr l e
 ql:AllQ o l
 qx:Qi o x
 hg:wts l+wt x<g
theorem len_wts (l:List In):l.length<=wts l:=by
 induction l with
 | nil=>exact Nat.zero_le _
 | cons x r ih =>
  have:=(yB x).1
  have e:wts (x :: r)=wt x+wts r:=by simp[wts]
  rw[e,List.length_cons]
  omega
theorem Pre.ok {o:O}(hA:Al (nu o)) {g e nx:Nat}{l:List In}{x:In}(h:Pre o g e l x):AddOk (nu o) e nx l x (addF g e nx l x):=addF_ok hA e nx g l x h.he h.hl h.hx h.hi h.hg
def Fd (o:O) (g e nx:Nat):List In->List In->Prop
 | [],_=>True
 | y :: r,l=>Pre o g e l y/\Fd o g e nx r (addF g e nx l y)
theorem fd_ok {o:O}(hA:Al (nu o)) {g e nx:Nat}:∀(W l:List In),e<=l.length->(∀ z∈l,OkI o.vars.length z)->Irr l e->AllQ o l->(∀ z∈W,OkI o.vars.length z)->AllQ o W->wts l+wts W<g->Fd o g e nx W l
 | [],_,_,_,_,_,_,_,_=>trivial
 | y :: r,l,he,hl,hi,ql,hW,qW,hg=>by
  have e1:wts (y :: r)=wt y+wts r:=by simp[wts]
  have hp:Pre o g e l y:=⟨he,hl,hW y (by simp),hi,ql,qW y (by simp),by omega⟩
  have k:AddOk (nu o) e nx l y (addF g e nx l y):=hp.ok hA
  have kw:=k.wt
  exact⟨hp,fd_ok hA r _ k.le k.ok k.irr (jN g l y ql (qW y (by simp))) (fun z hz=>hW z (List.mem_cons_of_mem _ hz)) (fun z hz=>qW z (List.mem_cons_of_mem _ hz)) (by omega)⟩
theorem fd_at {o:O}{g e nx:Nat}:∀(W l:List In) (j:Nat) (y:In),Fd o g e nx W l->W[j]?=some y->Pre o g e ((W.take j).foldl (addF g e nx) l) y
 | [],_,j,_,_,h=>by simp at h
 | z :: r,l,0,y,hf,h=>by
  simp at h
  subst h
  exact hf.1
 | z :: r,l,j+1,y,hf,h=>by
  have h:r[j]?=some y:=by simpa using h
  exact fd_at r _ j y hf.2 h
theorem fold_next {g e nx:Nat}{W l:List In}{j:Nat}{y:In}(h:W[j]?=some y):(W.take (j+1)).foldl (addF g e nx) l=addF g e nx ((W.take j).foldl (addF g e nx) l) y:=by
 have hj:=(List.getElem?_eq_some_iff.1 h).1
 rw[List.take_succ_eq_append_getElem hj,List.foldl_append,(List.getElem?_eq_some_iff.1 h).2]
 rfl
theorem three_wt {nv nx:Nat}{x y z:In}{W':List In}(hx:OkI nv x) (hy:OkI nv y) (hz:OkI nv z) (h:three nx x y z=some W'):wts W'<wts [x,y,z]/\∀ w∈W',OkI nv w:=by
 have e3:wts [x,y,z]=wt x+(wt y+wt z):=by simp[wts]
 have px:=yB x
 have py:=yB y
 have pz:=yB z
 unfold three at h
 by_cases c1:x.op=1/\y.op=1/\z.op=9
 ·rw[if_pos c1]at h
  have w1:=jU (x:=x) (Or.inl c1.1)
  cases hb:Tp.both (sgn z) x.a y.a with
  | none=>rw[hb]at h;cases h
  | some n =>
   rw[hb]at h
   cases h
   refine⟨?_,zN (ym (jp hy.i hb) (by decide) (by decide) (by decide) (by decide))⟩
   rw[wts1]
   have:=(yB (⟨1,n,0⟩:In)).2
   omega
 rw[if_neg c1]at h
 by_cases c2:x.op=11/\y.op=11/\(z.op=11\/z.op=13)
 ·rw[if_pos c2]at h
  cases h
  exact⟨by rw[wts1];omega,zN hz⟩
 rw[if_neg c2]at h
 by_cases c3:x.op=4/\y.op=3/\y.a=x.a/\y.b=0/\(z.op=15\/z.op=17)
 ·rw[if_pos c3]at h
  cases h
  exact⟨by rw[wts1];omega,zN hz⟩
 rw[if_neg c3]at h
 by_cases c4:y.op=13/\y.a=(nx:Int)/\y.b=0/\z.op=12
 ·rw[if_pos c4]at h
  by_cases ha:able x=true
  ·rw[if_pos ha]at h
   cases h
   have wz:=jU (x:=z) (Or.inr (Or.inr c4.2.2.2))
   refine⟨?_,fun w hw=>?_⟩
   ·have e:wts [x,⟨11,0,0⟩,⟨13,z.a,0⟩]=wt x+(1+1):=rfl
    rw[e]
    omega
   ·simp at hw
    rcases hw with rfl|rfl|rfl
    ·exact hx
    ·exact ym i0 (by decide) (by decide) (by decide) (by decide)
    ·exact ym hz.i (by decide) (by decide) (by decide) (by decide)
  ·rw[if_neg ha]at h;cases h
 ·rw[if_neg c4]at h;cases h
end Vm

namespace Go.Proofs.YtmnedfdffbbchaaGreatDoor.Jo
open Go.RowKit Go.Sort
open Ob (O In I64)
open Tp (Bs)
theorem Tryz.infoInst8:(Tryz.prog.info? 68).map (fun i=>(i.zero,i.size,i.bytes))=some (some (.agg #[.int .i64 0,.int .i64 0,.int .i64 0]),3,24):=by kernel_rfl
def nilS:Value:=.slice none 0 0
def freeV (lb eb:Nat):Value:=.func (.func 81) #[] #[.pointer (some ⟨lb,0,none⟩),.pointer (some ⟨eb,0,none⟩)]
structure Ld (w:World) (n lb eb nx e:Nat) (cs:List In) (v:Value):Prop where
 nl:n<=lb
 ne:n<=eb
 lk:w.heap[lb]?=some (.cells #[v,.int .i64 (nx:Int),freeV lb eb] 144 (0,0))
 ek:w.heap[eb]?=some (.cells #[.int .i64 (e:Int)] 3 (0,0))
 cr:w.ownsRow n 68 3 v cs.length (cellsOf inC cs)
theorem Ld.on {w w':World}{n lb eb nx e:Nat}{cs:List In}{v:Value}(h:Ld w n lb eb nx e cs v) (k:Below w.heap.size w w'):Ld w' n lb eb nx e cs v :=
 ⟨h.nl,h.ne,(k.block _ (zk h.lk)).trans h.lk,(k.block _ (zk h.ek)).trans h.ek,zD h.cr k⟩
theorem Ld.neb {w:World}{n lb eb nx e:Nat}{cs:List In}{v:Value}(h:Ld w n lb eb nx e cs v):lb≠eb:=fun q=>by
 have h1:=h.lk
 rw[q,h.ek]at h1
 cases h1
theorem uk (x:In):cellsOf inC [x]=[.int .i64 x.op,.int .i64 x.a,.int .i64 x.b]:=rfl
theorem jM (l r:List In):cellsOf inC (l++r)=cellsOf inC l++cellsOf inC r:=by simp[cellsOf]
theorem Ld.row {w w':World}{n lb eb nx e:Nat}{cs cs':List In}{v v':Value}(h:Ld w n lb eb nx e cs v) (os:w'.os=w.os) (tape:w'.tape=w.tape) (output:w'.output=w.output) (size:w.heap.size<=w'.heap.size) (hb:∀ b,b<w.heap.size->v.ownBlock≠some b->w'.heap[b]?=w.heap[b]?) (hr:w'.ownsRow n 68 3 v' cs'.length (cellsOf inC cs')) (hv:∀ g,v'.ownBlock=some g->v.ownBlock=some g\/w.heap.size<=g):Ld (w'.setCell ⟨lb,0,none⟩ v') n lb eb nx e cs' v'/\Kpt w (w'.setCell ⟨lb,0,none⟩ v') lb nilS v v':=by
 have n1:v.ownBlock≠some lb:=zJ h.cr h.lk (by decide)
 have n2:v.ownBlock≠some eb:=zJ h.cr h.ek (by decide)
 have l1:=zk h.lk
 have l2:=zk h.ek
 have n3:v'.ownBlock≠some lb:=fun q=>by
  rcases hv lb q with r|r
  ·exact n1 r
  ·omega
 have e1:w'.heap[lb]?=_:=(hb lb l1 n1).trans h.lk
 have e2:(w'.setCell ⟨lb,0,none⟩ v').heap[eb]?=w'.heap[eb]?:=Below.heap_setCell _ _ _ _ (fun q:eb=lb=>h.neb q.symm)
 refine⟨⟨h.nl,h.ne,zC 0 v' e1,e2.trans ((hb eb l2 n2).trans h.ek),z7 hr fun b _ _ q=>Below.heap_setCell _ _ _ _ (fun r:b=lb=>n3 (r ▸ q))⟩,os,tape,output,by simpa[World.setCell] using size,fun b h1 h2 _ h4=>(Below.heap_setCell _ _ _ _ (by exact h2)).trans (hb b h1 h4),hv⟩
theorem Ld.less {w:World}{n lb eb nx e g cap:Nat}{cs:List In}{k:Nat}(h:Ld w n lb eb nx e cs (.slice (some ⟨g,0,none⟩) cs.length cap)) (hk:k<=cs.length):Ld (w.setCell ⟨lb,0,none⟩ (.slice (some ⟨g,0,none⟩) k cap)) n lb eb nx e (cs.take k) (.slice (some ⟨g,0,none⟩) k cap)/\Kpt w (w.setCell ⟨lb,0,none⟩ (.slice (some ⟨g,0,none⟩) k cap)) lb nilS (.slice (some ⟨g,0,none⟩) cs.length cap) (.slice (some ⟨g,0,none⟩) k cap):=by
 have hl:(cs.take k).length=k:=by simp;omega
 refine h.row rfl rfl rfl zn (fun _ _ _=>rfl) ?_ (fun g' q=>Or.inl q)
 have e1:cellsOf inC cs=cellsOf inC (cs.take k)++cellsOf inC (cs.drop k):=by rw[<-jM,List.take_append_drop]
 have hc:=h.cr
 rw[e1]at hc
 rw[hl]
 exact jy hc rfl (by rw[kg jn,hl]) hk
def LdQ (w:World) (n lb eb nx e:Nat) (cs':List In) (v:Value) (wc:World):Prop:=∃ v',Ld wc n lb eb nx e cs' v'/\Kpt w wc lb nilS v v'
def AddP (w:World) (n lb eb nx e:Nat) (cs':List In) (v:Value) (ed:Ending) (w':World):Prop:=ed=.returned (.tuple #[])/\LdQ w n lb eb nx e cs' v w'
end Go.Proofs.YtmnedfdffbbchaaGreatDoor.Jo
