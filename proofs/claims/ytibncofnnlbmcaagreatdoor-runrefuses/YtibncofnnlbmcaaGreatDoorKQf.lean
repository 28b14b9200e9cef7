import Derived.Test.YtibncofnnlbmcaaGreatDoorKQe
set_option maxRecDepth 100000
set_option maxHeartbeats 4000000
namespace Go.Proofs.YtibncofnnlbmcaaGreatDoor
open Go.RowKit Go.Maps
open Tp (Bs X S G Pr Pt Rs Rr Own)
def itemSet (own:Own) (md nm:Bs) (l:List Int) (i v:Int) (s:Rs):Rr (Own× Option Int):=if 0<=i/\i<l.length then .ok (own,none) (setS s md nm (l.set i.toNat v)) else .stop Tp.bounds s
def itemR2 (own:Own) (md nm:Bs) (i v:Int) (s:Rs):Rr (Own× Option Int):=itemSet own md nm (((Tp.partOf s.w md).map fun p=>p.vars nm).getD []) i v s
theorem set_item {c:Cx}(ok:CxOk c) {k:Nat}{lo:Lo}{own:Own}{names:List Bs}{w:World}{s:Rs}{sb b o y z:Nat}{ob:Option Nat}{nm:Bs}{g:G}{ri rr:Rs->Rr Int}(h:GS c w s k) (hs:Sc c w sb ob lo own names (s.left+1)) (hX:CellS c b o nm (.pointer (some ⟨y,0,none⟩)) z) (hn:nm.length<=1000000) (hin:nm ∉ names) (hg:Tp.varOf lo.m nm=some g) (hI:RightC c k w s sb y ri) (hR:RightC c k w s sb z rr)
  {res:Rr (Own× Option Int)} (hres:res=match ri s with
   | .ok i s'=>(match rr s' with | .ok v s2=>itemR2 own lo.m.name nm i v s2 | .stop way s2=>.stop way s2 | .gas=>.gas)
   | .stop way s'=>.stop way s'
   | .gas=>.gas) (hng:res≠.gas) :
  Calls Tryz.prog 149 #[.pointer (some ⟨sb,0,none⟩),.pointer (some ⟨b,o,none⟩)] w (GoP c k sb ob lo names w s res):=by
 obtain⟨hbl,k2,k3,k4⟩:=hX w s k h
 have hgl:=h.lt
 have hnr:ri s≠.gas:=fun e=>hng (by rw[hres,e])
 have HC:=zh (hI w s h (Kp.refl _ _ _) zn hnr)
 have HX:=zh hX
 have HSC:=zh hs
 have HOK:=zh ok
 have HG0:=zh hg
 have HRT:=zh hR
 clear hX hs ok h hR hg hI
 cases hr:ri s with
 | gas=>exact absurd hr hnr
 | stop way s' =>
  rw[hr]at HC hres
  have HR:Hid (∀ e W,thrE endT (way:Int) e->(∃ k',GS c W s' k')->Kp c nY w W->GoP c k sb ob lo names w s res e W):=fun e W a1 a2 a3=>by rw[hres];exact⟨a1,a2,a3.wide⟩
  clear hres hng hnr hr
  go_enter Tryz.func149,Tryz.ntmps149
  go_wp2_with fail
  refine HC.out.mono ?_
  rintro e w2 ⟨⟨older,rfl⟩,hg2,hk2⟩
  have HG2:=zh hg2
  have HK2:=zh hk2
  clear hg2 hk2
  go_wp2_with fail
  exact⟨rfl,HR.out _ _ ⟨older,rfl⟩ HG2.out HK2.out⟩
 | ok i s1 =>
  rw[hr]at HC hres
  simp only at hres
  cases hr2:rr s1 with
  | gas=>rw[hr2]at hres;exact absurd hres hng
  | stop way s' =>
   rw[hr2]at hres
   have HR:Hid (∀ e W,thrE endT (way:Int) e->(∃ k',GS c W s' k')->Kp c nY w W->GoP c k sb ob lo names w s res e W):=fun e W a1 a2 a3=>by rw[hres];exact⟨a1,a2,a3.wide⟩
   have HR2:Hid (rr s1=.stop way s'):=hr2
   clear hres hng hnr hr hr2
   go_enter Tryz.func149,Tryz.ntmps149
   go_wp2_with fail
   refine HC.out.mono ?_
   rintro e w2 ⟨rfl,hg2,hk2,hl2,_⟩
   obtain⟨hbl2,_,_,j4⟩:=HX.out w2 s1 k hg2
   have HC2:=zh (HRT.out w2 s1 hg2 hk2 hl2 (by rw[HR2.out];simp))
   rw[HR2.out]at HC2
   have HK2:=zh hk2
   clear hg2 hk2 hl2 k2 k3 k4
   go_wp2_with fail
   refine HC2.out.mono ?_
   rintro e w3 ⟨⟨older,rfl⟩,hg3,hk3⟩
   have HG3:=zh hg3
   have HK3:=zh hk3
   clear hg3 hk3
   go_wp2_with fail
   exact⟨rfl,HR.out _ _ ⟨older,rfl⟩ HG3.out (HK2.out.trans HK3.out)⟩
  | ok v s' =>
   rw[hr2]at hres
   have hres2:res=itemR2 own lo.m.name nm i v s':=hres
   have HRES:=zh hres2
   have HR2:Hid (rr s1=.ok v s'):=hr2
   clear hres hres2 hng hnr hr hr2
   go_enter Tryz.func149,Tryz.ntmps149
   go_wp2_with fail
   refine HC.out.mono ?_
   rintro e w1 ⟨rfl,hg1,hk1,hl1,_⟩
   obtain⟨hbl1,_,_,j4⟩:=HX.out w1 s1 k hg1
   have HC2:=zh (HRT.out w1 s1 hg1 hk1 hl1 (by rw[HR2.out];simp))
   rw[HR2.out]at HC2
   have HK1:=zh hk1
   have HL1:=zh hl1
   clear hg1 hk1 hl1 k2 k3 k4
   go_wp2_with fail
   refine HC2.out.mono ?_
   rintro e w2 ⟨rfl,hg2,hk2',hl2',hi2⟩
   have hk2:=HK1.out.trans hk2'
   have hl2:=Nat.le_trans hl2' HL1.out
   obtain⟨hbl2,j2,_,_⟩:=HX.out w2 s' k hg2
   have hsc2:=HSC.out.kp (left':=s'.left+1) hk2 HOK.out.Vlt (by omega)
   have ks:w2.cell? ⟨sb,2,none⟩=some (.map ob):=(za hsc2.blk).trans rfl
   have ki:w2.cell? ⟨sb,1,none⟩=some (.pointer (some ⟨lo.lb,0,none⟩)):=(za hsc2.blk).trans rfl
   have hsl:=zf hsc2.blk
   have hon:own nm=none:=by
    cases ho:own nm with
    | none=>rfl
    | some u=>exact absurd ((hsc2.dom nm).1 (by rw[ho];rfl)) hin
   have hlk:∀ n,(Instr.lookup 96 (.map ob) (.string (bs nm)) true).run Tryz.prog (w2.drewN n)=.ok (.tuple #[.int .i64 0,.bool false]) (w2.drewN n):=fun n=>by
    rw[hsc2.look nm hn (w2.drewN n) (fun _=>rfl),hon];rfl
   obtain⟨ia,ga,pa,ba,ic,gc,pc,bc,b1,_⟩:=hg2.loB HOK.out HSC.out.mem
   have kl:w2.cell? ⟨lo.lb,5,none⟩=some (.map (some lo.vb)):=(za b1).trans rfl
   have hll:=zf b1
   obtain⟨p,p1,p2,p3,htail⟩:=set_tail HOK.out HSC.out HG0.out hg2 hk2 hl2
   have hres3:res=itemSet own lo.m.name nm (p.vars nm) i v s':=by rw[HRES.out];unfold itemR2;rw[p1];rfl
   unfold itemSet at hres3
   rw[p2]at hres3
   have HLV:Hid (∀ W:World,W.heap=w2.heap->(Instr.lookup 105 (.map (some lo.vb)) (.string (bs nm)) false).run Tryz.prog W=.ok (.slice (some ⟨lo.sl nm,0,none⟩) (vlen g) (vlen g)) W):=fun W hW=>hg2.lookV HOK.out HSC.out.mem HG0.out hn W (fun _=>by rw[hW])
   by_cases hc:0<=i/\i<(vlen g:Int)
   ·rw[if_pos hc]at hres3
    obtain⟨j,rfl⟩:∃ j:Nat,i=(j:Int):=⟨i.toNat,by omega⟩
    have hj:j<vlen g:=by omega
    rw[Int.toNat_natCast]at hres3
    obtain⟨⟨old,t1⟩,t2,t3,t4⟩:=htail j v hj hi2
    have HR:Hid (∀ W,GS c W (setS s' lo.m.name nm ((p.vars nm).set j v)) k->Kp c (oY ob) w W->(setS s' lo.m.name nm ((p.vars nm).set j v)).left<=s.left->Sc c W sb ob lo own names (setS s' lo.m.name nm ((p.vars nm).set j v)).left->GoP c k sb ob lo names w s res (.returned (.tuple #[])) W):=fun W a1 a2 a3 a4=>by rw[hres3];exact⟨rfl,a1,a2,a3,a4⟩
    have HT4:=zh t4
    have HW:Hid (∀ W:World,Calls Tryz.prog 171 #[.slice (some ⟨lo.sl nm,0,none⟩) (vlen g) (vlen g),.int .i64 (j:Int)] W fun e w'=>e=.returned (.int .i64 (j:Int))/\w'=W):=fun W=>kU _ _ _ (j:Int) (by omega) (by omega) p3 W
    have hj':(j:Int)<(vlen g:Int):=by omega
    have hg1000:(vlen g:Int)<=1000:=by omega
    clear hsc2 hg2 hk2 hl2 hi2 hon b1 htail t4 p1 p2 p3 hres3 HRES hk2' hl2' hc
    generalize vlen g=vg at *
    go_wp2_with fail
    go_quiet (fail)
    obtain⟨w3,hw3⟩:∃ w3,w3=w2.drewN nq:=⟨_,rfl⟩
    have e3:w3.heap=w2.heap:=by rw[hw3];rfl
    have HB3:Hid (Below w2.heap.size w2 w3):=by rw[hw3];exact below_drewN (Below.refl _ _) _
    rw[<-hw3]
    clear hw3
    have r2:w3.cell? ⟨b,o+2,none⟩=some (.string (bs nm)):=(zC e3 _).trans j2
    have ri:w3.cell? ⟨sb,1,none⟩=some (.pointer (some ⟨lo.lb,0,none⟩)):=(zC e3 _).trans ki
    have rk:w3.cell? ⟨lo.lb,5,none⟩=some (.map (some lo.vb)):=(zC e3 _).trans kl
    have rb:b<w3.heap.size:=by rw[e3];exact hbl2
    have rl:sb<w3.heap.size:=by rw[e3];exact hsl
    have rll:lo.lb<w3.heap.size:=by rw[e3];exact hll
    have rt:w3.cell? ⟨lo.sl nm,j,none⟩=some old:=(zC e3 _).trans t1
    have rf:w3.frozen? ⟨lo.sl nm,j,none⟩=false:=(World.frozen?_of_block (w:=w2) (by rw[e3])).trans t2
    have rtl:lo.sl nm<w3.heap.size:=by rw[e3];exact t3
    have hlv:∀ n,(Instr.lookup 105 (.map (some lo.vb)) (.string (bs nm)) false).run Tryz.prog (w3.drewN n)=.ok (.slice (some ⟨lo.sl nm,0,none⟩) vg vg) (w3.drewN n):=fun n=>HLV.out (w3.drewN n) e3
    clear e3 hlk j2 ks ki kl t1 t2 t3
    go_wp2_with fail
    go_quiet (fail)
    go_wp2_with fail
    refine(HW.out _).mono ?_
    rintro e w4 ⟨rfl,rfl⟩
    go_wp2_with fail
    have HF:=zh (HT4.out _ (below_drewN HB3.out nq))
    exact bodyPost_end (results_none rfl _ _ _) rfl (HR.out _ HF.out.1 HF.out.2.1 HF.out.2.2.1 HF.out.2.2.2)
   ·rw[if_neg hc]at hres3
    have HR:Hid (∀ e W,thrE endT (Tp.bounds:Int) e->Below w2.heap.size w2 W->GoP c k sb ob lo names w s res e W):=fun e W a1 hW=>by rw[hres3];exact⟨a1,⟨k,hg2.below HOK.out hW⟩,(hk2.trans (Kp.below hW hg2.lt)).wide⟩
    have HW:Hid (∀ W:World,Calls Tryz.prog 171 #[.slice (some ⟨lo.sl nm,0,none⟩) (vlen g) (vlen g),.int .i64 i] W fun e w'=>thrE endT (Tp.bounds:Int) e/\w'=W):=fun W=>ju _ _ _ i (by omega) p3 W
    clear hsc2 hg2 hk2 hl2 hi2 hon b1 htail p1 p2 p3 hres3 HRES hk2' hl2' hc
    generalize vlen g=vg at *
    go_wp2_with fail
    go_quiet (fail)
    obtain⟨w3,hw3⟩:∃ w3,w3=w2.drewN nq:=⟨_,rfl⟩
    have e3:w3.heap=w2.heap:=by rw[hw3];rfl
    have HB3:Hid (Below w2.heap.size w2 w3):=by rw[hw3];exact below_drewN (Below.refl _ _) _
    rw[<-hw3]
    clear hw3
    have r2:w3.cell? ⟨b,o+2,none⟩=some (.string (bs nm)):=(zC e3 _).trans j2
    have ri:w3.cell? ⟨sb,1,none⟩=some (.pointer (some ⟨lo.lb,0,none⟩)):=(zC e3 _).trans ki
    have rk:w3.cell? ⟨lo.lb,5,none⟩=some (.map (some lo.vb)):=(zC e3 _).trans kl
    have rb:b<w3.heap.size:=by rw[e3];exact hbl2
    have rl:sb<w3.heap.size:=by rw[e3];exact hsl
    have rll:lo.lb<w3.heap.size:=by rw[e3];exact hll
    have hlv:∀ n,(Instr.lookup 105 (.map (some lo.vb)) (.string (bs nm)) false).run Tryz.prog (w3.drewN n)=.ok (.slice (some ⟨lo.sl nm,0,none⟩) vg vg) (w3.drewN n):=fun n=>HLV.out (w3.drewN n) e3
    clear e3 hlk j2 ks ki kl
    go_wp2_with fail
    go_quiet (fail)
    go_wp2_with fail
    refine(HW.out _).mono ?_
    rintro e w4 ⟨⟨older,rfl⟩,rfl⟩
    go_wp2_with fail
    exact⟨rfl,HR.out _ _ ⟨older,rfl⟩ (below_drewN HB3.out _)⟩
theorem GoP.up {c:Cx}{k sb:Nat}{ob:Option Nat}{lo:Lo}{names:List Bs}{w W w':World}{s s':Rs}{r:Rr (Own× Option Int)}{e:Ending}(h:GoP c k sb ob lo names W s' r e w') (hk:Kp c (oY ob) w W) (hl:s'.left<=s.left):GoP c k sb ob lo names w s r e w':=by
 cases r with
 | ok v s2 =>
  obtain⟨o,u⟩:=v
  cases u with
  | none=>exact⟨h.1,h.2.1,hk.trans h.2.2.1,Nat.le_trans h.2.2.2.1 hl,h.2.2.2.2⟩
  | some u=>exact⟨h.1,h.2.1,hk.trans h.2.2.1,Nat.le_trans h.2.2.2.1 hl,h.2.2.2.2⟩
 | stop way s2=>exact⟨h.1,h.2.1,hk.trans h.2.2⟩
 | gas=>trivial
def Go1C (c:Cx) (g:Nat):Prop:=∀(k:Nat) (lo:Lo) (own:Own) (names:List Bs) (x:S) (b o:Nat) (w:World) (s:Rs) (sb:Nat) (ob:Option Nat),
 StAt c x b o->Tp.WS [x]->(∀ r∈Tp.rs [x],Tp.FitR c.ms lo.m names r)->GS c w s k->Sc c w sb ob lo own names (s.left+1)->Tp.go1 g k lo.m.name own x s≠.gas ->
 Calls Tryz.prog 121 #[.pointer (some ⟨sb,0,none⟩),.pointer (some ⟨b,o,none⟩)] w (GoP c k sb ob lo names w s (Tp.go1 g k lo.m.name own x s))
def Cell4 (c:Cx) (b o z:Nat):Prop:=∀ W s' k',GS c W s' k'->b<W.heap.size/\W.cell? ⟨b,o+4,none⟩=some (.pointer (some ⟨z,0,none⟩))
theorem ve {c:Cx}{k:Nat}{lo:Lo}{own:Own}{names:List Bs}{w:World}{s:Rs}{sb b o z:Nat}{ob:Option Nat}{rr:Rs->Rr Int}(h:GS c w s k) (hX:Cell4 c b o z) (k0:w.cell? ⟨b,o,none⟩=some (.int .i64 4)) (hR:RightC c k w s sb z rr)
  {res:Rr (Own× Option Int)} (hres:res=match rr s with | .ok v s'=>.ok (own,some v) s' | .stop way s'=>.stop way s' | .gas=>.gas) (hng:res≠.gas) :
  Calls Tryz.prog 121 #[.pointer (some ⟨sb,0,none⟩),.pointer (some ⟨b,o,none⟩)] w (GoP c k sb ob lo names w s res):=by
 obtain⟨hbl,k4⟩:=hX w s k h
 have hnr:rr s≠.gas:=fun e=>hng (by rw[hres,e])
 have HC:=zh (hR w s h (Kp.refl _ _ _) zn hnr)
 clear hX h hR
 cases hr:rr s with
 | gas=>exact absurd hr hnr
 | stop way s' =>
  rw[hr]at HC hres
  have HR:Hid (∀ e W,thrE endT (way:Int) e->(∃ k',GS c W s' k')->Kp c nY w W->GoP c k sb ob lo names w s res e W):=fun e W a1 a2 a3=>by rw[hres];exact⟨a1,a2,a3.wide⟩
  clear hres hng hnr hr
  go_enter Tryz.func121,Tryz.ntmps121
  go_wp2_with fail
  refine HC.out.mono ?_
  rintro e w2 ⟨⟨older,rfl⟩,hg2,hk2⟩
  have HG2:=zh hg2
  have HK2:=zh hk2
  clear hg2 hk2
  go_wp2_with fail
  exact⟨rfl,HR.out _ _ ⟨older,rfl⟩ HG2.out HK2.out⟩
 | ok v s' =>
  rw[hr]at HC hres
  have HR:Hid (∀ e W,thrE toldT v e->GS c W s' k->Kp c nY w W->s'.left<=s.left->Tp.I64 v->GoP c k sb ob lo names w s res e W):=fun e W a1 a2 a3 a4 a5=>by rw[hres];exact⟨a1,a2,a3.wide,a4,a5⟩
  clear hres hng hnr hr
  go_enter Tryz.func121,Tryz.ntmps121
  go_wp2_with fail
  refine HC.out.mono ?_
  rintro e w2 ⟨rfl,hg2,hk2,hl2,hi2⟩
  have HG2:=zh hg2
  have HK2:=zh hk2
  have HL2:=zh hl2
  have HI2:=zh hi2
  clear hg2 hk2 hl2 hi2
  go_wp2_with fail
  exact⟨rfl,HR.out _ _ ⟨noP,rfl⟩ HG2.out HK2.out HL2.out HI2.out⟩
theorem rstmt_call {c:Cx}(ok:CxOk c) {k:Nat}{lo:Lo}{own:Own}{names:List Bs}{w:World}{s:Rs}{sb b o z:Nat}{ob:Option Nat}{rr:Rs->Rr Int}(h:GS c w s k) (hs:Sc c w sb ob lo own names s.left) (hX:Cell4 c b o z) (k0:w.cell? ⟨b,o,none⟩=some (.int .i64 6)) (hR:RightC c k w s sb z rr)
  {res:Rr (Own× Option Int)} (hres:res=match rr s with | .ok _ s'=>.ok (own,none) s' | .stop way s'=>.stop way s' | .gas=>.gas) (hng:res≠.gas) :
  Calls Tryz.prog 121 #[.pointer (some ⟨sb,0,none⟩),.pointer (some ⟨b,o,none⟩)] w (GoP c k sb ob lo names w s res):=by
 obtain⟨hbl,k4⟩:=hX w s k h
 have hnr:rr s≠.gas:=fun e=>hng (by rw[hres,e])
 have HC:=zh (hR w s h (Kp.refl _ _ _) zn hnr)
 have HSC:=zh hs
 have HV:=zh ok.Vlt
 clear hX h hR hs ok
 cases hr:rr s with
 | gas=>exact absurd hr hnr
 | stop way s' =>
  rw[hr]at HC hres
  have HR:Hid (∀ e W,thrE endT (way:Int) e->(∃ k',GS c W s' k')->Kp c nY w W->GoP c k sb ob lo names w s res e W):=fun e W a1 a2 a3=>by rw[hres];exact⟨a1,a2,a3.wide⟩
  clear hres hng hnr hr
  go_enter Tryz.func121,Tryz.ntmps121
  go_wp2_with fail
  refine HC.out.mono ?_
  rintro e w2 ⟨⟨older,rfl⟩,hg2,hk2⟩
  have HG2:=zh hg2
  have HK2:=zh hk2
  clear hg2 hk2
  go_wp2_with fail
  exact⟨rfl,HR.out _ _ ⟨older,rfl⟩ HG2.out HK2.out⟩
 | ok v s' =>
  rw[hr]at HC hres
  have HR:Hid (∀ W,GS c W s' k->Kp c nY w W->s'.left<=s.left->GoP c k sb ob lo names w s res (.returned (.tuple #[])) W):=fun W a2 a3 a4=>by rw[hres];exact⟨rfl,a2,a3.wide,a4,HSC.out.kp a3 HV.out a4⟩
  clear hres hng hnr hr
  go_enter Tryz.func121,Tryz.ntmps121
  go_wp2_with fail
  refine HC.out.mono ?_
  rintro e w2 ⟨rfl,hg2,hk2,hl2,_⟩
  have HG2:=zh hg2
  have HK2:=zh hk2
  have HL2:=zh hl2
  clear hg2 hk2 hl2
  go_wp2_with fail
  exact bodyPost_end (results_none rfl _ _ _) rfl (HR.out _ HG2.out HK2.out HL2.out)
theorem uw {c:Cx}(ok:CxOk c) {k:Nat}{lo:Lo}{own:Own}{names:List Bs}{w:World}{s:Rs}{sb b o z:Nat}{ob:Option Nat}{rr:Rs->Rr Int}(h:GS c w s k) (hs:Sc c w sb ob lo own names s.left) (hX:Cell4 c b o z) (k0:w.cell? ⟨b,o,none⟩=some (.int .i64 5)) (hR:RightC c k w s sb z rr)
  {res:Rr (Own× Option Int)} (hres:res=match rr s with | .ok v s'=>(if s'.out.length<200 then .ok (own,none) { s' with out:=s'.out++[v] } else .stop Tp.full s') | .stop way s'=>.stop way s' | .gas=>.gas) (hng:res≠.gas) :
  Calls Tryz.prog 121 #[.pointer (some ⟨sb,0,none⟩),.pointer (some ⟨b,o,none⟩)] w (GoP c k sb ob lo names w s res):=by
 obtain⟨hbl,k4⟩:=hX w s k h
 have hgl:=h.lt
 have hsl:=zf hs.blk
 have hnr:rr s≠.gas:=fun e=>hng (by rw[hres,e])
 have HC:=zh (hR w.drew s (h.drew ok) (Kp.drew c nY hgl) zn hnr)
 have HSC:=zh hs
 have HV:=zh ok.Vlt
 have HOK:=zh ok
 have HKD:=zh (Kp.drew c nY hgl)
 have HS0:Hid (w.drew.cell? ⟨sb,0,none⟩=some (.pointer (some ⟨c.gb,0,none⟩))/\w.drew.cell? ⟨b,o+4,none⟩=some (.pointer (some ⟨z,0,none⟩))):=⟨(za hs.blk).trans rfl,k4⟩
 have HSW:Hid (∀ W s' k',GS c W s' k'->Kp c nY w W->W.cell? ⟨sb,0,none⟩=some (.pointer (some ⟨c.gb,0,none⟩))/\W.cell? ⟨b,o+4,none⟩=some (.pointer (some ⟨z,0,none⟩))):=fun W s' k' a1 a2=>⟨(za (hs.kp a2 ok.Vlt (Nat.zero_le _)).blk).trans rfl,(hX W s' k' a1).2⟩
 clear hX h hR hs ok
 cases hr:rr s with
 | gas=>exact absurd hr hnr
 | stop way s' =>
  rw[hr]at HC hres
  have HR:Hid (∀ e W,thrE endT (way:Int) e->(∃ k',GS c W s' k')->Kp c nY w.drew W->GoP c k sb ob lo names w s res e W):=fun e W a1 a2 a3=>by rw[hres];exact⟨a1,a2,(HKD.out.trans a3).wide⟩
  clear hres hng hnr hr
  go_enter Tryz.func121,Tryz.ntmps121
  go_wp2_with fail
  go_region_held (fun w'=>w'.cell? ⟨sb,0,none⟩=some (.pointer (some ⟨c.gb,0,none⟩))/\w'.cell? ⟨b,o+4,none⟩=some (.pointer (some ⟨z,0,none⟩))) (with_reducible (first|exact hF.out.elim|exact HS0.out)) (first|(go_at_call 150;refine yo HC.out ?hT ?_;(case hT=>(rintro e w3 ⟨⟨older,rfl⟩,hg3,hk3⟩;exact⟨rfl,HR.out _ _ ⟨older,rfl⟩ hg3 hk3⟩));intro hF)|(go_at_call 151;refine yo (T:=fun _ _=>False) hF.out.elim ?hT2 ?_;(case hT2=>(intro e w h;exact h.elim));intro hF2))
  exact hF.out.elim
 | ok v s' =>
  rw[hr]at HC hres
  simp only at hres
  by_cases hlen:s'.out.length<200
  ·rw[if_pos hlen]at hres
   have HR:Hid (∀ W,GS c W { s' with out:=s'.out++[v] } k->Kp c nY w W->s'.left<=s.left->GoP c k sb ob lo names w s res (.returned (.tuple #[])) W):=fun W a2 a3 a4=>by rw[hres];exact⟨rfl,a2,a3.wide,a4,HSC.out.kp a3 HV.out a4⟩
   clear hres hng hnr hr
   go_enter Tryz.func121,Tryz.ntmps121
   go_wp2_with fail
   go_region_held3 (fun w'=>w'.cell? ⟨sb,0,none⟩=some (.pointer (some ⟨c.gb,0,none⟩))/\w'.cell? ⟨b,o+4,none⟩=some (.pointer (some ⟨z,0,none⟩))) (with_reducible (first|exact HS4.out|exact HS3.out|exact HS0.out)) (first|(go_at_call 150;refine HC.out.mono ?_;rintro e w3 ⟨rfl,hg3,hk3,hl3,hi3⟩;have HG3:=zh hg3;have HK3:=zh (HKD.out.trans hk3);have HL3:=zh hl3;have HI3:=zh hi3;have HS3:=zh (HSW.out _ _ _ hg3 HK3.out);clear hg3 hk3 hl3 hi3)|(go_at_call 151;refine(rtell_ok HG3.out HOK.out v hlen HI3.out).mono ?_;rintro e w4 ⟨rfl,hg4,hk4⟩;have HG4:=zh hg4;have HK4:=zh (HK3.out.trans hk4);have HS4:=zh (HSW.out _ _ _ hg4 HK4.out);clear hg4 hk4))
   go_wp2_with fail
   exact bodyPost_end (results_none rfl _ _ _) rfl (HR.out _ HG4.out HK4.out HL3.out)
  ·rw[if_neg hlen]at hres
   have HR:Hid (∀ e W,thrE endT (Tp.full:Int) e->GS c W s' k->Kp c nY w W->GoP c k sb ob lo names w s res e W):=fun e W a1 a2 a3=>by rw[hres];exact⟨a1,⟨k,a2⟩,a3.wide⟩
   clear hres hng hnr hr
   go_enter Tryz.func121,Tryz.ntmps121
   go_wp2_with fail
   go_region_held (fun w'=>w'.cell? ⟨sb,0,none⟩=some (.pointer (some ⟨c.gb,0,none⟩))/\w'.cell? ⟨b,o+4,none⟩=some (.pointer (some ⟨z,0,none⟩))) (with_reducible (first|exact hF.out.elim|exact HS3.out|exact HS0.out)) (first|(go_at_call 150;refine HC.out.mono ?_;rintro e w3 ⟨rfl,hg3,hk3,hl3,hi3⟩;have HG3:=zh hg3;have HK3:=zh (HKD.out.trans hk3);have HS3:=zh (HSW.out _ _ _ hg3 HK3.out);clear hg3 hk3 hl3 hi3)|(go_at_call 151;refine yo (rtell_out HG3.out v (by have:=HG3.out.ol;omega)) ?hT2 ?_;(case hT2=>(rintro e w4 ⟨⟨older,rfl⟩,rfl⟩;exact⟨rfl,HR.out _ _ ⟨older,rfl⟩ HG3.out HK3.out⟩));intro hF))
   exact hF.out.elim
def BlockC (c:Cx) (k:Nat) (w:World) (s:Rs) (sb:Nat) (ob:Option Nat) (lo:Lo) (names:List Bs) (v:Value) (rt:Rs->Rr (Own× Option Int)):Prop:=∀ W s',GS c W s' k->Kp c nY w W->s'.left<=s.left->rt s'≠.gas->Calls Tryz.prog 88 #[.pointer (some ⟨sb,0,none⟩),v] W (GoP c k sb ob lo names W s' (rt s'))
theorem rstmt_if {c:Cx}{k:Nat}{lo:Lo}{names:List Bs}{w:World}{s:Rs}{sb b o z:Nat}{ob:Option Nat}{ta ea:Option Addr}{tn tc en ec:Nat}{rr:Rs->Rr Int}{rt re:Rs->Rr (Own× Option Int)}(h:GS c w s k) (hX:Cell4 c b o z) (hY:∀ W s' k',GS c W s' k'->W.cell? ⟨b,o+5,none⟩=some (.slice ta tn tc)/\W.cell? ⟨b,o+6,none⟩=some (.slice ea en ec)) (k0:w.cell? ⟨b,o,none⟩=some (.int .i64 2)) (hR:RightC c k w s sb z rr)
  (hT:BlockC c k w s sb ob lo names (.slice ta tn tc) rt) (hE:BlockC c k w s sb ob lo names (.slice ea en ec) re)
  {res:Rr (Own× Option Int)} (hres:res=match rr s with | .ok v s'=>(if v=0 then re s' else rt s') | .stop way s'=>.stop way s' | .gas=>.gas) (hng:res≠.gas) :
  Calls Tryz.prog 121 #[.pointer (some ⟨sb,0,none⟩),.pointer (some ⟨b,o,none⟩)] w (GoP c k sb ob lo names w s res):=by
 obtain⟨hbl,k4⟩:=hX w s k h
 have hnr:rr s≠.gas:=fun e=>hng (by rw[hres,e])
 have HC:=zh (hR w s h (Kp.refl _ _ _) zn hnr)
 have HX:=zh hX
 have HY:=zh hY
 have HT:=zh hT
 have HE:=zh hE
 clear hX h hR hY hT hE
 cases hr:rr s with
 | gas=>exact absurd hr hnr
 | stop way s' =>
  rw[hr]at HC hres
  have HR:Hid (∀ e W,thrE endT (way:Int) e->(∃ k',GS c W s' k')->Kp c nY w W->GoP c k sb ob lo names w s res e W):=fun e W a1 a2 a3=>by rw[hres];exact⟨a1,a2,a3.wide⟩
  clear hres hng hnr hr
  go_enter Tryz.func121,Tryz.ntmps121
  go_wp2_with fail
  refine HC.out.mono ?_
  rintro e w2 ⟨⟨older,rfl⟩,hg2,hk2⟩
  have HG2:=zh hg2
  have HK2:=zh hk2
  clear hg2 hk2
  go_wp2_with fail
  exact⟨rfl,HR.out _ _ ⟨older,rfl⟩ HG2.out HK2.out⟩
 | ok v s' =>
  rw[hr]at HC hres
  simp only at hres
  by_cases hv:v=0
  ·rw[if_pos hv]at hres
   subst hv
   rw[hres]at hng
   have HR:Hid (∀ W e W',Kp c nY w W->s'.left<=s.left->GoP c k sb ob lo names W s' (re s') e W'->GoP c k sb ob lo names w s res e W'):=fun W e W' a1 a2 a3=>by rw[hres];exact a3.up a1.wide a2
   clear hres hnr hr HT
   go_enter Tryz.func121,Tryz.ntmps121
   go_wp2_with fail
   refine HC.out.mono ?_
   rintro e w2 ⟨rfl,hg2,hk2,hl2,_⟩
   obtain⟨hbl2,_⟩:=HX.out w2 s' k hg2
   obtain⟨_,j6⟩:=HY.out w2 s' k hg2
   have HC2:=zh (HE.out w2 s' hg2 hk2 hl2 hng)
   have HK2:=zh hk2
   have HL2:=zh hl2
   have HRR:=zh (HR.out w2)
   clear hg2 hk2 hl2 HR
   generalize re s'=rq at *
   go_wp2_with fail
   refine HC2.out.mono ?_
   intro e w3 hq
   have HQ:=zh (HRR.out e w3 HK2.out HL2.out hq)
   cases rq with
   | gas=>exact absurd rfl hng
   | stop way s2 =>
    obtain⟨⟨older,rfl⟩,_⟩:=hq
    go_wp2_with fail
    exact⟨rfl,HQ.out⟩
   | ok r1 s2 =>
    obtain⟨ow,u⟩:=r1
    cases u with
    | none =>
     obtain⟨rfl,_⟩:=hq
     go_wp2_with fail
     exact bodyPost_end (results_none rfl _ _ _) rfl HQ.out
    | some u =>
     obtain⟨⟨older,rfl⟩,_⟩:=hq
     go_wp2_with fail
     exact⟨rfl,HQ.out⟩
  ·rw[if_neg hv]at hres
   have hv':(v == 0)=false:=by simpa using hv
   rw[hres]at hng
   have HR:Hid (∀ W e W',Kp c nY w W->s'.left<=s.left->GoP c k sb ob lo names W s' (rt s') e W'->GoP c k sb ob lo names w s res e W'):=fun W e W' a1 a2 a3=>by rw[hres];exact a3.up a1.wide a2
   clear hres hnr hr HE
   go_enter Tryz.func121,Tryz.ntmps121
   go_wp2_with fail
   refine HC.out.mono ?_
   rintro e w2 ⟨rfl,hg2,hk2,hl2,_⟩
   obtain⟨hbl2,_⟩:=HX.out w2 s' k hg2
   obtain⟨j5,_⟩:=HY.out w2 s' k hg2
   have HC2:=zh (HT.out w2 s' hg2 hk2 hl2 hng)
   have HK2:=zh hk2
   have HL2:=zh hl2
   have HRR:=zh (HR.out w2)
   clear hg2 hk2 hl2 HR
   generalize rt s'=rq at *
   go_wp2_with fail
   refine HC2.out.mono ?_
   intro e w3 hq
   have HQ:=zh (HRR.out e w3 HK2.out HL2.out hq)
   cases rq with
   | gas=>exact absurd rfl hng
   | stop way s2 =>
    obtain⟨⟨older,rfl⟩,_⟩:=hq
    go_wp2_with fail
    exact⟨rfl,HQ.out⟩
   | ok r1 s2 =>
    obtain⟨ow,u⟩:=r1
    cases u with
    | none =>
     obtain⟨rfl,_⟩:=hq
     go_wp2_with fail
     exact bodyPost_end (results_none rfl _ _ _) rfl HQ.out
    | some u =>
     obtain⟨⟨older,rfl⟩,_⟩:=hq
     go_wp2_with fail
     exact⟨rfl,HQ.out⟩
theorem goW_eq (g k:Nat) (m:Bs) (own:Own) (v:List X) (b:List S) (s:Rs):Tp.goW (g+1) k m own v b s=match Tp.evX g k m own v s with
  | .ok n s1=>(if n=0 then .ok (own,none) s1 else (match Tp.goS g k m own b s1 with
   | .ok r s2=>(match r.2 with
    | some u=>.ok (r.1,some u) s2
    | none=>(match s2.left with
     | 0=>.stop Tp.fuelW s2
     | f+1=>Tp.goW g k m r.1 v b { s2 with left:=f }))
   | .stop way s2=>.stop way s2
   | .gas=>.gas))
  | .stop way s1=>.stop way s1
  | .gas=>.gas:=by
 rw[Tp.goW]
 unfold Tp.Ru.bind
 cases Tp.evX g k m own v s with
 | gas=>rfl
 | stop way s1=>rfl
 | ok n s1 =>
  simp only
  by_cases hn:n=0
  ·rw[if_pos hn,if_pos hn];rfl
  ·rw[if_neg hn,if_neg hn]
   cases Tp.goS g k m own b s1 with
   | gas=>rfl
   | stop way s2=>rfl
   | ok r s2 =>
    simp only
    cases r.2 with
    | some u=>rfl
    | none =>
     simp only [Tp.tick]
     cases s2.left <;> rfl
theorem ux {c:Cx}{g:Nat}(ok:CxOk c) (hE:∀ n,n<g->EvC c n) (hG:∀ n,n<g->GoC c n) {k:Nat}{lo:Lo}{own:Own}{names:List Bs}{w:World}{s:Rs}{sb b o z:Nat}{ob:Option Nat}{vl:List X}{th:List S}{ta:Option Addr}{tn tc:Nat}(h:GS c w s k) (hs:Sc c w sb ob lo own names s.left) (hX:Cell4 c b o z) (hY:∀ W s' k',GS c W s' k'->W.cell? ⟨b,o+5,none⟩=some (.slice ta tn tc)) (k0:w.cell? ⟨b,o,none⟩=some (.int .i64 3))
  (hex:Ex c lo names vl z) (hss:Ss c lo names th (.slice ta tn tc))
  {res:Rr (Own× Option Int)} (hres:res=Tp.goW g k lo.m.name own vl th s) (hng:res≠.gas) :
  Calls Tryz.prog 121 #[.pointer (some ⟨sb,0,none⟩),.pointer (some ⟨b,o,none⟩)] w (GoP c k sb ob lo names w s res):=by
 obtain⟨hbl,k4⟩:=hX w s k h
 have HX:=zh hX
 have HY:=zh hY
 have HE:=zh hE
 have HGO:=zh hG
 have HOK:=zh ok
 have HEX:=zh hex
 have HSS:=zh hss
 have HN:=zh hng
 have HG0:=zh h
 have HS0:=zh hs
 have HF0:Hid (∃ gi,gi<=g/\res=Tp.goW gi k lo.m.name own vl th s):=⟨g,Nat.le_refl _,hres⟩
 clear hX h hY hE hG ok hex hss hng hs hres
 go_enter Tryz.func121,Tryz.ntmps121
 go_wp2_with fail
 go_loopg [] s.left (fun kk wr=>∃(si:Rs) (ow:Own),kk=si.left/\Hid (GS c wr si k)/\Hid (Kp c (oY ob) w wr)/\Hid (si.left<=s.left)/\Hid (Sc c wr sb ob lo ow names si.left)/\Hid (∃ gi,gi<=g/\res=Tp.goW gi k lo.m.name ow vl th si))
 case atStart=>exact⟨s,own,rfl,HG0,Kp.refl _ _ _,Nat.le_refl _,HS0,HF0⟩
 case round =>
  obtain⟨si,ow,hkk,HG,HK,HL,HS,HF⟩:=hrel
  obtain⟨gi,hgi,hfl⟩:=HF.out
  cases gi with
  | zero=>exact absurd (by rw[hfl,Tp.goW];rfl) HN.out
  | succ g1 =>
   rw[goW_eq]at hfl
   have hnv:Tp.evX g1 k lo.m.name ow vl si≠.gas:=fun e=>HN.out (by rw[hfl,e])
   have HC:=zh (HE.out g1 (by omega) k lo ow names vl z wr si sb ob HEX.out HG.out HS.out hnv)
   obtain⟨hblr,j4⟩:=HX.out wr si k HG.out
   cases hr:Tp.evX g1 k lo.m.name ow vl si with
   | gas=>exact absurd hr hnv
   | stop way s1 =>
    rw[hr]at HC hfl
    have HR:Hid (∀ e W,thrE endT (way:Int) e->(∃ k',GS c W s1 k')->Kp c nY wr W->GoP c k sb ob lo names w s res e W):=fun e W a1 a2 a3=>by rw[hfl];exact⟨a1,a2,HK.out.trans a3.wide⟩
    clear hfl hnv hr HF k4
    go_wp2_with fail
    refine HC.out.mono ?_
    rintro e w2 ⟨⟨older,rfl⟩,hg2,hk2⟩
    have HG2:=zh hg2
    have HK2:=zh hk2
    clear hg2 hk2
    go_wp2_with fail
    exact⟨rfl,HR.out _ _ ⟨older,rfl⟩ HG2.out HK2.out⟩
   | ok n s1 =>
    rw[hr]at HC hfl
    simp only at hfl
    by_cases hn:n=0
    ·rw[if_pos hn]at hfl
     subst hn
     have HR:Hid (∀ W,GS c W s1 k->Kp c nY wr W->s1.left<=si.left->GoP c k sb ob lo names w s res (.returned (.tuple #[])) W):=fun W a1 a2 a3=>by rw[hfl];exact⟨rfl,a1,HK.out.trans a2.wide,Nat.le_trans a3 HL.out,HS.out.kp a2 HOK.out.Vlt a3⟩
     clear hfl hnv hr HF k4
     go_wp2_with fail
     refine HC.out.mono ?_
     rintro e w2 ⟨rfl,hg2,hk2,hl2,_⟩
     have HG2:=zh hg2
     have HK2:=zh hk2
     have HL2:=zh hl2
     clear hg2 hk2 hl2
     go_wp2_with fail
     exact bodyPost_end (results_none rfl _ _ _) rfl (HR.out _ HG2.out HK2.out HL2.out)
    ·rw[if_neg hn]at hfl
     have hn':(n == 0)=false:=by simpa using hn
     have hnb:Tp.goS g1 k lo.m.name ow th s1≠.gas:=fun e=>HN.out (by rw[hfl,e])
     have HNB:=zh hnb
     have HFL:=zh hfl
     clear hfl hnv hr HF k4 hnb
     go_wp2_with fail
     refine HC.out.mono ?_
     rintro e w2 ⟨rfl,hg2,hk2,hl2,_⟩
     have hs2:=HS.out.kp hk2 HOK.out.Vlt hl2
     have HC2:=zh (HGO.out g1 (by omega) k lo ow names th (.slice ta tn tc) w2 s1 sb ob HSS.out hg2 hs2 HNB.out)
     obtain⟨hbl2,_⟩:=HX.out w2 s1 k hg2
     have j5:=HY.out w2 s1 k hg2
     have HK2:=zh (HK.out.trans hk2.wide)
     have HL2:Hid (s1.left<=si.left):=hl2
     have hfl:=HFL.out
     clear hg2 hk2 hl2 hs2 j4
     cases hgo:Tp.goS g1 k lo.m.name ow th s1 with
     | gas=>exact absurd hgo HNB.out
     | stop way s3 =>
      rw[hgo]at HC2 hfl
      have HR:Hid (∀ e W,GoP c k sb ob lo names w2 s1 (.stop way s3) e W->GoP c k sb ob lo names w s res e W):=fun e W a=>by rw[hfl];exact a.up HK2.out (Nat.le_trans HL2.out HL.out)
      clear hfl hgo HNB HFL
      go_wp2_with fail
      refine HC2.out.mono ?_
      intro e w3 hq
      have HQ:=zh (HR.out e w3 hq)
      obtain⟨⟨older,rfl⟩,_⟩:=hq
      go_wp2_with fail
      exact⟨rfl,HQ.out⟩
     | ok r1 s3 =>
      obtain⟨ow2,u⟩:=r1
      rw[hgo]at HC2 hfl
      simp only at hfl
      cases u with
      | some u =>
       simp only at hfl
       have HR:Hid (∀ e W,GoP c k sb ob lo names w2 s1 (.ok (ow2,some u) s3) e W->GoP c k sb ob lo names w s res e W):=fun e W a=>by rw[hfl];exact a.up HK2.out (Nat.le_trans HL2.out HL.out)
       clear hfl hgo HNB HFL
       go_wp2_with fail
       refine HC2.out.mono ?_
       intro e w3 hq
       have HQ:=zh (HR.out e w3 hq)
       obtain⟨⟨older,rfl⟩,_⟩:=hq
       go_wp2_with fail
       exact⟨rfl,HQ.out⟩
      | none =>
       simp only at hfl
       have HFL2:=zh hfl
       clear hfl hgo HNB HFL
       go_wp2_with fail
       refine HC2.out.mono ?_
       rintro e w3 ⟨rfl,hg3,hk3,hl3,hs3⟩
       have HK3:=zh (HK2.out.trans hk3)
       have ks3:w3.cell? ⟨sb,0,none⟩=some (.pointer (some ⟨c.gb,0,none⟩)):=(za hs3.blk).trans rfl
       have hsb3:=zf hs3.blk
       have hl3':=HL2.out
       have hl3'':=HL.out
       cases hlf:s3.left with
       | zero =>
        have hfl:=HFL2.out
        rw[hlf]at hfl
        have HR:Hid (∀ e,thrE endT (Tp.fuelW:Int) e->GoP c k sb ob lo names w s res e w3):=fun e a=>by rw[hfl];exact⟨a,⟨k,hg3⟩,HK3.out⟩
        have HST:=zh (vf hg3 hlf)
        clear hfl hg3 hk3 hl3 hs3 HFL2 hlf hl3' hl3''
        go_wp2_with fail
        refine HST.out.mono ?_
        rintro e w4 ⟨⟨older,rfl⟩,rfl⟩
        go_wp2_with fail
        exact⟨rfl,HR.out _ ⟨older,rfl⟩⟩
       | succ f =>
        have hfl:=HFL2.out
        rw[hlf]at hfl
        have HST:=zh (rstep_ok hg3 hlf)
        have HG4:=zh (hg3.tick HOK.out hlf)
        have HK4:Hid (Kp c (oY ob) w (w3.setCell ⟨c.gb,1,none⟩ (.int .i64 (f:Int)))):=HK3.out.trans (Kp.reg hg3 (by omega)).wide
        have HS4:Hid (Sc c (w3.setCell ⟨c.gb,1,none⟩ (.int .i64 (f:Int))) sb ob lo ow2 names f):=hs3.kp (Kp.reg hg3 (by omega)) HOK.out.Vlt (by omega)
        have HF4:Hid (∃ gi,gi<=g/\res=Tp.goW gi k lo.m.name ow2 vl th { s3 with left:=f }):=⟨g1,by omega,hfl⟩
        have hfk:f<gk:=by omega
        have HLF:Hid (f<=s.left):=by show f<=s.left;omega
        clear hfl hg3 hk3 hl3 hs3 HFL2 hlf hl3' hl3''
        go_wp2_with fail
        refine HST.out.mono ?_
        rintro e w4 ⟨rfl,rfl⟩
        go_wp2_with fail
        go_roundg f
        case measure=>omega
        case rel=>exact⟨{ s3 with left:=f },ow2,rfl,HG4,HK4,HLF,HS4,HF4⟩
def mapR (r:Rr Int) (f:Int->Rs->Rr (Own× Option Int)):Rr (Own× Option Int):=match r with
 | .ok v s=>f v s
 | .stop way s=>.stop way s
 | .gas=>.gas
theorem go1_own {g k:Nat}{m nm:Bs}{own:Own}{pos:Nat}{vl:List X}{th el:List S}{s:Rs}{u:Int}(ho:own nm=some u):Tp.go1 (g+1) k m own ⟨1,pos,nm,[],vl,th,el⟩ s=match Tp.evX g k m own vl s with | .ok v s'=>.ok (updO own nm v,none) s' | .stop way s'=>.stop way s' | .gas=>.gas:=by
 rw[Tp.go1]
 show (Tp.Ru.bind _ _) s=_
 unfold Tp.Ru.bind
 cases Tp.evX g k m own vl s with
 | gas=>rfl
 | stop way s'=>rfl
 | ok v s' =>
  simp only [ho]
  rfl
theorem go1_var {g k:Nat}{m nm:Bs}{own:Own}{pos:Nat}{vl:List X}{th el:List S}{s:Rs}(ho:own nm=none):Tp.go1 (g+1) k m own ⟨1,pos,nm,[],vl,th,el⟩ s=match Tp.evX g k m own vl s with | .ok v s'=>.ok (own,none) (setS s' m nm [v]) | .stop way s'=>.stop way s' | .gas=>.gas:=by
 rw[Tp.go1]
 show (Tp.Ru.bind _ _) s=_
 unfold Tp.Ru.bind
 cases Tp.evX g k m own vl s with
 | gas=>rfl
 | stop way s'=>rfl
 | ok v s' =>
  simp only [ho]
  rfl
theorem go1_item {g k:Nat}{m nm:Bs}{own:Own}{pos:Nat}{ix vl:List X}{th el:List S}{s:Rs}(hx:ix≠[]):Tp.go1 (g+1) k m own ⟨1,pos,nm,ix,vl,th,el⟩ s=match Tp.evX g k m own ix s with
   | .ok i s'=>(match Tp.evX g k m own vl s' with | .ok v s2=>itemR2 own m nm i v s2 | .stop way s2=>.stop way s2 | .gas=>.gas)
   | .stop way s'=>.stop way s'
   | .gas=>.gas:=by
 rw[Tp.go1]
 simp only [if_true]
 rw[if_neg hx]
 unfold Tp.Ru.bind
 cases Tp.evX g k m own ix s with
 | gas=>rfl
 | stop way s'=>rfl
 | ok i s' =>
  simp only
  cases Tp.evX g k m own vl s' with
  | gas=>rfl
  | stop way s2=>rfl
  | ok v s2 =>
   simp only [Tp.getV]
   unfold itemR2 itemSet
   split
   ·rfl
   ·rfl
theorem go1_2 {g k:Nat}{m nm:Bs}{own:Own}{pos:Nat}{ix vl:List X}{th el:List S}{s:Rs}:Tp.go1 (g+1) k m own ⟨2,pos,nm,ix,vl,th,el⟩ s=match Tp.evX g k m own vl s with | .ok v s'=>(if v=0 then Tp.goS g k m own el s' else Tp.goS g k m own th s') | .stop way s'=>.stop way s' | .gas=>.gas:=by
 rw[Tp.go1]
 show (Tp.Ru.bind _ _) s=_
 unfold Tp.Ru.bind
 cases Tp.evX g k m own vl s with
 | gas=>rfl
 | stop way s'=>rfl
 | ok v s' =>
  simp only
  by_cases h:v=0
  ·rw[if_pos h,if_pos h]
  ·rw[if_neg h,if_neg h]
theorem go1_3 {g k:Nat}{m nm:Bs}{own:Own}{pos:Nat}{ix vl:List X}{th el:List S}{s:Rs}:Tp.go1 (g+1) k m own ⟨3,pos,nm,ix,vl,th,el⟩ s=Tp.goW g k m own vl th s:=by rw[Tp.go1];rfl
theorem go1_4 {g k:Nat}{m nm:Bs}{own:Own}{pos:Nat}{ix vl:List X}{th el:List S}{s:Rs}:Tp.go1 (g+1) k m own ⟨4,pos,nm,ix,vl,th,el⟩ s=match Tp.evX g k m own vl s with | .ok v s'=>.ok (own,some v) s' | .stop way s'=>.stop way s' | .gas=>.gas:=by
 rw[Tp.go1]
 show (Tp.Ru.bind _ _) s=_
 unfold Tp.Ru.bind
 cases Tp.evX g k m own vl s <;> rfl
theorem go1_5 {g k:Nat}{m nm:Bs}{own:Own}{pos:Nat}{ix vl:List X}{th el:List S}{s:Rs}:Tp.go1 (g+1) k m own ⟨5,pos,nm,ix,vl,th,el⟩ s=match Tp.evX g k m own vl s with | .ok v s'=>(if s'.out.length<200 then .ok (own,none) { s' with out:=s'.out++[v] } else .stop Tp.full s') | .stop way s'=>.stop way s' | .gas=>.gas:=by
 rw[Tp.go1]
 show (Tp.Ru.bind _ _) s=_
 unfold Tp.Ru.bind
 cases Tp.evX g k m own vl s with
 | gas=>rfl
 | stop way s'=>rfl
 | ok v s' =>
  simp only [Tp.tellN]
  by_cases h:s'.out.length<200
  ·rw[if_pos h,if_pos h];rfl
  ·rw[if_neg h,if_neg h]
theorem go1_6 {g k:Nat}{m nm:Bs}{own:Own}{pos:Nat}{ix vl:List X}{th el:List S}{s:Rs}:Tp.go1 (g+1) k m own ⟨6,pos,nm,ix,vl,th,el⟩ s=match Tp.evX g k m own vl s with | .ok _ s'=>.ok (own,none) s' | .stop way s'=>.stop way s' | .gas=>.gas:=by
 rw[Tp.go1]
 show (Tp.Ru.bind _ _) s=_
 unfold Tp.Ru.bind
 cases Tp.evX g k m own vl s <;> rfl
theorem rstmt_set {c:Cx}{k:Nat}{lo:Lo}{names:List Bs}{w:World}{s:Rs}{sb b o:Nat}{ob:Option Nat}(_hbl:b<w.heap.size) (k0:w.cell? ⟨b,o,none⟩=some (.int .i64 1)) {res:Rr (Own× Option Int)}(hng:res≠.gas)
  (hS:Calls Tryz.prog 149 #[.pointer (some ⟨sb,0,none⟩),.pointer (some ⟨b,o,none⟩)] w (GoP c k sb ob lo names w s res)) :
  Calls Tryz.prog 121 #[.pointer (some ⟨sb,0,none⟩),.pointer (some ⟨b,o,none⟩)] w (GoP c k sb ob lo names w s res):=by
 have HS:=zh hS
 clear hS
 go_enter Tryz.func121,Tryz.ntmps121
 go_wp2_with fail
 refine HS.out.mono ?_
 intro e w3 hq
 have HQ:=zh hq
 cases res with
 | gas=>exact absurd rfl hng
 | stop way s2 =>
  obtain⟨⟨older,rfl⟩,_⟩:=hq
  go_wp2_with fail
  exact⟨rfl,HQ.out⟩
 | ok r1 s2 =>
  obtain⟨ow,u⟩:=r1
  cases u with
  | none =>
   obtain⟨rfl,_⟩:=hq
   go_wp2_with fail
   exact bodyPost_end (results_none rfl _ _ _) rfl HQ.out
  | some u =>
   obtain⟨⟨older,rfl⟩,_⟩:=hq
   go_wp2_with fail
   exact⟨rfl,HQ.out⟩
theorem kV {code pos:Nat}{nm:Bs}{ix vl:List X}{th el:List S}:Tp.rs [⟨code,pos,nm,ix,vl,th,el⟩]=(if code=1 then [⟨if ix.isEmpty then 2 else 3,pos,[],nm,0⟩] else [])++Tp.rx ix++Tp.rx vl++Tp.rs th++Tp.rs el:=by simp[Tp.rs]
theorem rstmt_all {c:Cx}{g:Nat}(ok:CxOk c) (hE:∀ n,n<g+1->EvC c n) (hG:∀ n,n<g+1->GoC c n):Go1C c (g+1):=by
 intro k lo own names x b o w s sb ob hst hws hfit h hs hng
 obtain⟨code,pos,nm,ix,vl,th,el⟩:=x
 obtain⟨tv,ev,ls,vs,tcs,ecs,c0,c2,c3,c4,c5,c6,rl,_,rv,_,rt,ot,re,oe⟩:=hst.r
 simp only at c0 c2 rl rv rt ot re oe
 rw[Tp.WS]at hws
 have hev:Tp.ev vl:=by
  rcases hws.1 with q|q|q|q|q
  ·exact q.2.2.2.1
  ·exact q.2.2.2.1
  ·exact q.2.2.2.1
  ·exact q.2.2.2.1
  ·exact q.2.2.2.1
 obtain⟨z,rfl,_⟩:=rv.part hev.2.1
 have hexv:Ex c lo names vl z:=⟨rv,hev.1,fun r hr=>hfit r (by rw[kV];simp[hr])⟩
 have d:=hst.d
 have j0:=h.cell0 d c0
 have hbl:=zg j0
 have hX:Cell4 c b o z:=fun W s' k' hW=>⟨zg (hW.cell0 d c4),hW.cell0 d c4⟩
 have hR:RightC c k w s sb z (fun s'=>Tp.evX g k lo.m.name own vl s'):=fun W s' hW hK hL hn=>hE g (by omega) k lo own names vl z W s' sb ob hexv hW (hs.kp hK ok.Vlt (by omega)) hn
 have hs':Sc c w sb ob lo own names s.left:=hs.kp (Kp.refl _ _ _) ok.Vlt (by omega)
 obtain⟨ta,tc,rfl⟩:=ot.shape
 obtain⟨ea,ec,rfl⟩:=oe.shape
 rcases hws.1 with q|q|q|q|q
 ·obtain⟨rfl,hokn,hix,_,rfl,rfl⟩:=q
  have hnl:=zQ hokn
  have hf:=hfit ⟨if ix.isEmpty then 2 else 3,pos,[],nm,0⟩ (by rw[kV];simp)
  refine rstmt_set hbl j0 hng ?_
  rcases hix with rfl|⟨hwi,hil,_⟩
  ·have els:ls=[]:=by rw[RepL]at rl;exact rl
   subst els
   have hXS:CellS c b o nm (.pointer none) z:=fun W s' k' hW=>⟨zg (hW.cell0 d c4),hW.cell0 d c2,hW.cell0 d c3,hW.cell0 d c4⟩
   rcases hf.v2 rfl with⟨_,q2⟩|⟨q1,m',g',q2,q3,q4⟩
   ·simp only at q2
    obtain⟨u,hu⟩:=Option.isSome_iff_exists.1 ((hs.dom nm).2 q2)
    cases ob with
    | none =>
     have:=hs.om nm
     rw[this]at hu
     cases hu
    | some ob=>exact set_own (rr:=fun s'=>Tp.evX g k lo.m.name own vl s') ok h hs hXS hnl q2 hR (go1_own hu) hng
   ·simp only at q1 q2 q3
    have hni:=q1 trivial
    have hm':m'=lo.m:=by simpa[Tp.atM] using q2
    rw[hm']at q3
    have hon:own nm=none:=by
     cases ho:own nm with
     | none=>rfl
     | some u=>exact absurd ((hs.dom nm).1 (by rw[ho];rfl)) hni
    exact set_var (rr:=fun s'=>Tp.evX g k lo.m.name own vl s') ok h hs hXS hnl hni q3 q4 hR (go1_var hon) hng
  ·have hixn:ix≠[]:=fun e=>by rw[e]at hil;simp at hil
   obtain⟨y,rfl,_⟩:=rl.part hil
   have hem:ix.isEmpty=false:=by cases ix with|nil=>exact absurd rfl hixn|cons a t=>rfl
   rw[hem]at hf
   obtain⟨q1,m',g',q2,q3,q4⟩:=hf.v3 rfl
   simp only at q1 q2 q3
   have hni:=q1 trivial
   have hm':m'=lo.m:=by simpa[Tp.atM] using q2
   rw[hm']at q3
   have hexi:Ex c lo names ix y:=⟨rl,hwi,fun r hr=>hfit r (by rw[kV];simp[hr])⟩
   have hXS:CellS c b o nm (.pointer (some ⟨y,0,none⟩)) z:=fun W s' k' hW=>⟨zg (hW.cell0 d c4),hW.cell0 d c2,hW.cell0 d c3,hW.cell0 d c4⟩
   have hI:RightC c k w s sb y (fun s'=>Tp.evX g k lo.m.name own ix s'):=fun W s' hW hK hL hn=>hE g (by omega) k lo own names ix y W s' sb ob hexi hW (hs.kp hK ok.Vlt (by omega)) hn
   exact set_item (ri:=fun s'=>Tp.evX g k lo.m.name own ix s') (rr:=fun s'=>Tp.evX g k lo.m.name own vl s') ok h hs hXS hnl hni q3 hI hR (go1_item hixn) hng
 ·obtain⟨rfl,_,_,_,hwt,hwe⟩:=q
  have hsst:Ss c lo names th (.slice ta th.length tc):=⟨⟨tcs,rt,ot⟩,hwt,fun r hr=>hfit r (by rw[kV];simp[hr])⟩
  have hsse:Ss c lo names el (.slice ea el.length ec):=⟨⟨ecs,re,oe⟩,hwe,fun r hr=>hfit r (by rw[kV];simp[hr])⟩
  exact rstmt_if (rr:=fun s'=>Tp.evX g k lo.m.name own vl s') (rt:=fun s'=>Tp.goS g k lo.m.name own th s') (re:=fun s'=>Tp.goS g k lo.m.name own el s') h hX (fun W s' k' hW=>⟨hW.cell0 d c5,hW.cell0 d c6⟩) j0 hR
   (fun W s' hW hK hL hn=>hG g (by omega) k lo own names th _ W s' sb ob hsst hW (hs.kp hK ok.Vlt (by omega)) hn)
   (fun W s' hW hK hL hn=>hG g (by omega) k lo own names el _ W s' sb ob hsse hW (hs.kp hK ok.Vlt (by omega)) hn) go1_2 hng
 ·obtain⟨rfl,_,_,_,hwt,_⟩:=q
  have hsst:Ss c lo names th (.slice ta th.length tc):=⟨⟨tcs,rt,ot⟩,hwt,fun r hr=>hfit r (by rw[kV];simp[hr])⟩
  exact ux ok (fun n hn=>hE n (by omega)) (fun n hn=>hG n (by omega)) h hs' hX (fun W s' k' hW=>hW.cell0 d c5) j0 hexv hsst go1_3 hng
 ·obtain⟨hc,_⟩:=q
  rcases hc with rfl|rfl
  ·exact ve (rr:=fun s'=>Tp.evX g k lo.m.name own vl s') h hX j0 hR go1_4 hng
  ·exact uw (rr:=fun s'=>Tp.evX g k lo.m.name own vl s') ok h hs' hX j0 hR go1_5 hng
 ·obtain⟨rfl,_⟩:=q
  exact rstmt_call (rr:=fun s'=>Tp.evX g k lo.m.name own vl s') ok h hs' hX j0 hR go1_6 hng
end Go.Proofs.YtibncofnnlbmcaaGreatDoor
