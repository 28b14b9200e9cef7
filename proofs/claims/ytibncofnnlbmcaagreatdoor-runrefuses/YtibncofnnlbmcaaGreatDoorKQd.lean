import Derived.Test.YtibncofnnlbmcaaGreatDoorKQc
import Derived.Defers
import Derived.Recover
set_option maxRecDepth 100000
set_option maxHeartbeats 4000000
namespace Go.Proofs.YtibncofnnlbmcaaGreatDoor
open Go.RowKit Go.Maps
open Tp (Bs X S G Pr Pt Rs Rr Own)
theorem jM (v:Value) {P:Program}{f:FuncId}{args:Array Value}{w:World}{R T:Ending->World->Prop}(h:Calls P f args w T) (hT:∀ e w',T e w'->R e w') (_:Hid False->R (.returned v) w):Calls P f args w R:=h.mono hT
def bothR (op:Bs) (a b:Int) (s:Rs):Rr Int:=match Tp.both op a b with
 | some v=>.ok v s
 | none=>.stop Tp.zero s
theorem both_in {op:Bs}{a b v:Int}(ha:Tp.I64 a) (hb:Tp.I64 b) (h:Tp.both op a b=some v):Tp.I64 v:=by
 unfold Tp.both at h
 split at h
 ·cases h;exact Tp.w64_in _
 split at h
 ·cases h;exact Tp.w64_in _
 split at h
 ·cases h;exact Tp.w64_in _
 split at h
 ·split at h
  ·cases h
  ·cases h;exact Tp.w64_in _
 split at h
 ·split at h
  ·cases h
  ·rename_i hz
   cases h
   have e1:=(Tp.both_rest ha hz).2.2
   unfold Tp.I64 at *
   have e2:=(Tp.both_rest (a:=a) ha hz).2.1
   omega
 split at h
 ·cases h;exact ji _
 split at h
 ·cases h;exact ji _
 split at h
 ·cases h;exact ji _
 split at h
 ·cases h;exact ji _
 split at h
 ·cases h;exact ji _
 split at h
 ·cases h;exact ji _
 ·cases h;decide
theorem pair_else {c:Cx}(ok:CxOk c) {k:Nat}{w:World}{s:Rs}{sb x y z:Nat}{rl:Rr Int}{rr:Rs->Rr Int}{op:Bs}(h0:op≠Tp.wAnd) (h1:op≠Tp.wOr) (h:GS c w s k) (hX:CellX c x (bs op) y z)
  (hL:Calls Tryz.prog 150 #[.pointer (some ⟨sb,0,none⟩),.pointer (some ⟨y,0,none⟩)] w (EvP c k w s rl)) (hR:RightC c k w s sb z rr)
  {res:Rr Int} (hres:res=bindR rl fun a s'=>bindR (rr s') fun b s2=>bothR op a b s2) (hn:res≠.gas) :
  Calls Tryz.prog 175 #[.pointer (some ⟨sb,0,none⟩),.pointer (some ⟨x,0,none⟩)] w (EvP c k w s res):=by
 obtain⟨hxl,_,k6,_⟩:=hX w s k h
 have HX:=zh hX
 have HL:=zh hL
 have HRT:=zh hR
 have HOK:=zh ok
 have h0':((bs op).toList == [97,110,100])=false:=by rw[zj];simpa[Tp.wAnd] using h0
 have h1':((bs op).toList == [111,114])=false:=by rw[zj];simpa[Tp.wOr] using h1
 have HBO:=zh (fun a b ha hb W=>both_any op a b ha hb W)
 clear hX hL hR h ok h0 h1
 cases rl with
 | gas=>exact absurd (hres.trans rfl) hn
 | stop way s' =>
  have HR:Hid (∀ e W,EvP c k w s (.stop way s') e W->EvP c k w s res e W):=fun e W hW=>by rw[hres];exact hW
  clear hres hn
  go_enter Tryz.func175,Tryz.ntmps175
  go_wp2_with fail
  refine HL.out.mono ?_
  rintro e w2 ⟨⟨older,rfl⟩,hg2,hk2⟩
  have HG2:=zh hg2
  have HK2:=zh hk2
  clear hg2 hk2
  go_wp2_with fail
  exact⟨rfl,HR.out _ _ ⟨⟨older,rfl⟩,HG2.out,HK2.out⟩⟩
 | ok a s1 =>
  have hres1:res=bindR (rr s1) fun b s2=>bothR op a b s2:=hres
  clear hres
  cases hrr:rr s1 with
  | gas=>rw[hrr]at hres1;exact absurd hres1 hn
  | stop way s2 =>
   rw[hrr]at hres1
   have HR:Hid (∀ W e W',Kp c nY w W->s1.left<=s.left->EvP c k W s1 (.stop way s2) e W'->EvP c k w s res e W'):=fun W e W' a1 a2 a3=>by rw[hres1];exact a3.up a1 a2
   have HRR:Hid (rr s1=.stop way s2):=hrr
   clear hres1 hn hrr
   go_enter Tryz.func175,Tryz.ntmps175
   go_wp2_with fail
   refine HL.out.mono ?_
   rintro e w2 ⟨rfl,hg2,hk2,hl2,_⟩
   obtain⟨hxl2,j5,_,j7⟩:=HX.out w2 _ _ hg2
   have hgd:=hg2.drew HOK.out
   have hkd:=hk2.trans (Kp.drew c nY hg2.lt)
   have HC2:=zh (HRT.out w2.drew s1 hgd hkd hl2 (by rw[HRR.out];simp))
   rw[HRR.out]at HC2
   have HK2:=zh hkd
   have HL2:=zh hl2
   have HS0:Hid (w2.drew.cell? ⟨x,5,none⟩=some (.string (bs op))/\w2.drew.cell? ⟨x,7,none⟩=some (.pointer (some ⟨z,0,none⟩))):=⟨(HX.out _ _ _ hgd).2.1,(HX.out _ _ _ hgd).2.2.2⟩
   clear hg2 hk2 hl2 hgd hkd
   go_wp2_with fail
   go_region_held (fun w'=>w'.cell? ⟨x,5,none⟩=some (.string (bs op))/\w'.cell? ⟨x,7,none⟩=some (.pointer (some ⟨z,0,none⟩))) (with_reducible (first|exact hF.out.elim|exact HS0.out)) (first|(go_at_call 150;refine yo HC2.out ?hT ?_;(case hT=>(rintro e w3 ⟨⟨older,rfl⟩,hg3,hk3⟩;exact⟨rfl,HR.out _ _ _ HK2.out HL2.out ⟨⟨older,rfl⟩,hg3,hk3⟩⟩));intro hF)|(go_at_call 200;refine jM (.tuple #[.int .i64 0,.bool true]) (T:=fun _ _=>False) hF.out.elim ?hT2 ?_;(case hT2=>(intro e w h;exact h.elim));intro hF2))
   exact hF.out.elim
  | ok b s2 =>
   rw[hrr]at hres1
   have hres2:res=bothR op a b s2:=hres1
   unfold bothR at hres2
   have HRR:Hid (rr s1=.ok b s2):=hrr
   clear hres1 hn hrr
   cases hbo:Tp.both op a b with
   | some v =>
    rw[hbo]at hres2
    have HR:Hid (∀ W W',Kp c nY w W->s1.left<=s.left->GS c W' s2 k->Kp c nY W W'->s2.left<=s1.left->Tp.I64 a->Tp.I64 b->EvP c k w s res (.returned (.int .i64 v)) W'):=fun W W' a1 a2 a3 a4 a5 a6 a7=>by rw[hres2];exact⟨rfl,a3,a1.trans a4,Nat.le_trans a5 a2,both_in a6 a7 hbo⟩
    have HBB:Hid (∀ W,Tp.I64 a->Tp.I64 b->Calls Tryz.prog 200 #[.string (bs op),.int .i64 a,.int .i64 b] W fun e w'=>e=.returned (.tuple #[.int .i64 v,.bool true])/\Below W.heap.size W w'):=fun W a6 a7=>by
     have:=HBO.out a b a6 a7 W
     rw[hbo]at this
     exact this.mono fun e w' q=>⟨q.2,q.1⟩
    clear hres2 hbo
    go_enter Tryz.func175,Tryz.ntmps175
    go_wp2_with fail
    refine HL.out.mono ?_
    rintro e w2 ⟨rfl,hg2,hk2,hl2,hi2⟩
    obtain⟨hxl2,j5,_,j7⟩:=HX.out w2 _ _ hg2
    have hgd:=hg2.drew HOK.out
    have hkd:=hk2.trans (Kp.drew c nY hg2.lt)
    have HC2:=zh (HRT.out w2.drew s1 hgd hkd hl2 (by rw[HRR.out];simp))
    rw[HRR.out]at HC2
    have HK2:=zh hkd
    have HL2:=zh hl2
    have HI2:=zh hi2
    have HS0:Hid (w2.drew.cell? ⟨x,5,none⟩=some (.string (bs op))/\w2.drew.cell? ⟨x,7,none⟩=some (.pointer (some ⟨z,0,none⟩))):=⟨(HX.out _ _ _ hgd).2.1,(HX.out _ _ _ hgd).2.2.2⟩
    clear hg2 hk2 hl2 hgd hkd hi2
    go_wp2_with fail
    go_region_held3 (fun w'=>w'.cell? ⟨x,5,none⟩=some (.string (bs op))/\w'.cell? ⟨x,7,none⟩=some (.pointer (some ⟨z,0,none⟩))) (with_reducible (first|exact HS4.out|exact HS3.out|exact HS0.out)) (first|(go_at_call 150;refine HC2.out.mono ?_;rintro e w3 ⟨rfl,hg3,hk3,hl3,hi3⟩;have HG3:=zh hg3;have HK3:=zh hk3;have HL3:=zh hl3;have HI3:=zh hi3;have HS3:Hid (w3.cell? ⟨x,5,none⟩=some (.string (bs op))/\w3.cell? ⟨x,7,none⟩=some (.pointer (some ⟨z,0,none⟩))):=⟨(HX.out _ _ _ hg3).2.1,(HX.out _ _ _ hg3).2.2.2⟩;clear hg3 hk3 hl3 hi3)|(go_at_call 200;refine(HBB.out _ HI2.out HI3.out).mono ?_;rintro e w4 ⟨rfl,hb4⟩;have HG4:=zh (HG3.out.below HOK.out hb4);have HK4:=zh (HK3.out.trans (Kp.below hb4 HG3.out.lt));have HS4:Hid (w4.cell? ⟨x,5,none⟩=some (.string (bs op))/\w4.cell? ⟨x,7,none⟩=some (.pointer (some ⟨z,0,none⟩))):=⟨(HX.out _ _ _ HG4.out).2.1,(HX.out _ _ _ HG4.out).2.2.2⟩;clear hb4))
    go_wp2_with fail
    go_ret
    exact HR.out _ _ HK2.out HL2.out HG4.out HK4.out HL3.out HI2.out HI3.out
   | none =>
    rw[hbo]at hres2
    have HR:Hid (∀ W W' e,thrE endT (Tp.zero:Int) e->Kp c nY w W->GS c W' s2 k->Kp c nY W W'->EvP c k w s res e W'):=fun W W' e a0 a1 a3 a4=>by rw[hres2];exact⟨a0,⟨k,a3⟩,a1.trans a4⟩
    have HBB:Hid (∀ W,Tp.I64 a->Tp.I64 b->Calls Tryz.prog 200 #[.string (bs op),.int .i64 a,.int .i64 b] W fun e w'=>e=.returned (.tuple #[.int .i64 0,.bool false])/\Below W.heap.size W w'):=fun W a6 a7=>by
     have:=HBO.out a b a6 a7 W
     rw[hbo]at this
     exact this.mono fun e w' q=>⟨q.2,q.1⟩
    clear hres2 hbo
    go_enter Tryz.func175,Tryz.ntmps175
    go_wp2_with fail
    refine HL.out.mono ?_
    rintro e w2 ⟨rfl,hg2,hk2,hl2,hi2⟩
    obtain⟨hxl2,j5,_,j7⟩:=HX.out w2 _ _ hg2
    have hgd:=hg2.drew HOK.out
    have hkd:=hk2.trans (Kp.drew c nY hg2.lt)
    have HC2:=zh (HRT.out w2.drew s1 hgd hkd hl2 (by rw[HRR.out];simp))
    rw[HRR.out]at HC2
    have HK2:=zh hkd
    have HL2:=zh hl2
    have HI2:=zh hi2
    have HS0:Hid (w2.drew.cell? ⟨x,5,none⟩=some (.string (bs op))/\w2.drew.cell? ⟨x,7,none⟩=some (.pointer (some ⟨z,0,none⟩))):=⟨(HX.out _ _ _ hgd).2.1,(HX.out _ _ _ hgd).2.2.2⟩
    clear hg2 hk2 hl2 hgd hkd hi2
    go_wp2_with fail
    go_region_held3 (fun w'=>w'.cell? ⟨x,5,none⟩=some (.string (bs op))/\w'.cell? ⟨x,7,none⟩=some (.pointer (some ⟨z,0,none⟩))) (with_reducible (first|exact HS4.out|exact HS3.out|exact HS0.out)) (first|(go_at_call 150;refine HC2.out.mono ?_;rintro e w3 ⟨rfl,hg3,hk3,hl3,hi3⟩;have HG3:=zh hg3;have HK3:=zh hk3;have HL3:=zh hl3;have HI3:=zh hi3;have HS3:Hid (w3.cell? ⟨x,5,none⟩=some (.string (bs op))/\w3.cell? ⟨x,7,none⟩=some (.pointer (some ⟨z,0,none⟩))):=⟨(HX.out _ _ _ hg3).2.1,(HX.out _ _ _ hg3).2.2.2⟩;clear hg3 hk3 hl3 hi3)|(go_at_call 200;refine(HBB.out _ HI2.out HI3.out).mono ?_;rintro e w4 ⟨rfl,hb4⟩;have HG4:=zh (HG3.out.below HOK.out hb4);have HK4:=zh (HK3.out.trans (Kp.below hb4 HG3.out.lt));have HS4:Hid (w4.cell? ⟨x,5,none⟩=some (.string (bs op))/\w4.cell? ⟨x,7,none⟩=some (.pointer (some ⟨z,0,none⟩))):=⟨(HX.out _ _ _ HG4.out).2.1,(HX.out _ _ _ HG4.out).2.2.2⟩;clear hb4))
    go_wp2_with fail
    exact⟨rfl,HR.out _ _ _ ⟨noP,rfl⟩ HK2.out HG4.out HK4.out⟩
theorem evX_bin (g k:Nat) (m:Bs) (own:Own) (pos n:Nat) (md nm op:Bs) (le ri ar:List X) (s:Rs):Tp.evX (g+1) k m own [⟨5,pos,n,md,nm,op,le,ri,ar⟩] s=bindR (Tp.evX g k m own le s) fun a s'=>if op=Tp.wAnd then (if a=0 then .ok 0 s' else bindR (Tp.evX g k m own ri s') fun b s2=>.ok (Tp.b01 (b≠0)) s2) else if op=Tp.wOr then (if a≠0 then .ok 1 s' else bindR (Tp.evX g k m own ri s') fun b s2=>.ok (Tp.b01 (b≠0)) s2) else bindR (Tp.evX g k m own ri s') fun b s2=>bothR op a b s2:=by
 rw[Tp.evX]
 show (Tp.Ru.bind _ _) s=_
 unfold Tp.Ru.bind bindR
 cases Tp.evX g k m own le s with
 | gas=>rfl
 | stop way s'=>rfl
 | ok a s' =>
  simp only
  by_cases h1:op=Tp.wAnd
  ·rw[if_pos h1,if_pos h1]
   by_cases h2:a=0
   ·rw[if_pos h2,if_pos h2];rfl
   ·rw[if_neg h2,if_neg h2]
    cases Tp.evX g k m own ri s' <;> rfl
  ·rw[if_neg h1,if_neg h1]
   by_cases h2:op=Tp.wOr
   ·rw[if_pos h2,if_pos h2]
    by_cases h3:a≠0
    ·rw[if_pos h3,if_pos h3];rfl
    ·rw[if_neg h3,if_neg h3]
     cases Tp.evX g k m own ri s' <;> rfl
   ·rw[if_neg h2,if_neg h2]
    cases Tp.evX g k m own ri s' with
    | gas=>rfl
    | stop way s2=>rfl
    | ok b s2 =>
     simp only
     unfold bothR
     cases Tp.both op a b <;> rfl
theorem value_bin {c:Cx}{g:Nat}(ok:CxOk c) (hE:EvC c g) {k:Nat}{lo:Lo}{own:Own}{names:List Bs}{x:Nat}{w:World}{s:Rs}{sb pos n:Nat}{ob:Option Nat}{md nm op:Bs}{le ri ar:List X}(hx:Ex c lo names [⟨5,pos,n,md,nm,op,le,ri,ar⟩] x) (h:GS c w s k) (hs:Sc c w sb ob lo own names s.left) (hn:Tp.evX (g+1) k lo.m.name own [⟨5,pos,n,md,nm,op,le,ri,ar⟩] s≠.gas) :
  Calls Tryz.prog 150 #[.pointer (some ⟨sb,0,none⟩),.pointer (some ⟨x,0,none⟩)] w (EvP c k w s (Tp.evX (g+1) k lo.m.name own [⟨5,pos,n,md,nm,op,le,ri,ar⟩] s)):=by
 have hw:=hx.wx
 rw[Tp.WX]at hw
 obtain⟨hwl,hl1,hwr,hr1⟩:Tp.WX le/\le.length=1/\Tp.WX ri/\ri.length=1:=by
  rcases hw.1 with q|q|q|q|q|q
  ·exact absurd q.1 (by decide)
  ·exact absurd q.1 (by decide)
  ·exact absurd q.1 (by decide)
  ·exact absurd q.1 (by decide)
  ·exact⟨q.2.2.2.2.2.1,q.2.2.2.2.2.2.1,q.2.2.2.2.2.2.2.1,q.2.2.2.2.2.2.2.2.1⟩
  ·exact absurd q.1 (by decide)
 rw[evX_bin]at hn ⊢
 obtain⟨av,ls,rs,gs,hD,hb,rl,_,rr,_⟩:=hx.blk
 obtain⟨y,rfl,_⟩:=rl.part hl1
 obtain⟨z,rfl,_⟩:=rr.part hr1
 have hexl:=hx.left rl hwl
 have hexr:=hx.right rr hwr
 have hb1:=(h.st x hD).trans hb
 have hxl:=zf hb1
 have k0:w.cell? ⟨x,0,none⟩=some (.int .i64 5):=(za hb1).trans rfl
 have hX:CellX c x (bs op) y z:=fun W s' k' hW=>⟨zf ((hW.st x hD).trans hb),(za ((hW.st x hD).trans hb)).trans rfl,(za ((hW.st x hD).trans hb)).trans rfl,(za ((hW.st x hD).trans hb)).trans rfl⟩
 have hng:Tp.evX g k lo.m.name own le s≠.gas:=fun e=>hn (by rw[e];rfl)
 have hL:=hE k lo own names le y w s sb ob hexl h hs hng
 have hR:RightC c k w s sb z (fun s'=>Tp.evX g k lo.m.name own ri s'):=fun W s' hW hK hLe hnn=>hE k lo own names ri z W s' sb ob hexr hW (hs.kp hK ok.Vlt hLe) hnn
 have HP:Hid (Calls Tryz.prog 175 #[.pointer (some ⟨sb,0,none⟩),.pointer (some ⟨x,0,none⟩)] w (EvP c k w s (bindR (Tp.evX g k lo.m.name own le s) fun a s'=>if op=Tp.wAnd then (if a=0 then .ok 0 s' else bindR (Tp.evX g k lo.m.name own ri s') fun b s2=>.ok (Tp.b01 (b≠0)) s2) else if op=Tp.wOr then (if a≠0 then .ok 1 s' else bindR (Tp.evX g k lo.m.name own ri s') fun b s2=>.ok (Tp.b01 (b≠0)) s2) else bindR (Tp.evX g k lo.m.name own ri s') fun b s2=>bothR op a b s2))):=by
  by_cases h1:op=Tp.wAnd
  ·refine pair_and (rr:=fun s'=>Tp.evX g k lo.m.name own ri s') (by rw[zj,h1];rfl) h hX hL hR ?_ hn
   simp only [if_pos h1]
  ·by_cases h2:op=Tp.wOr
   ·refine pair_or (rr:=fun s'=>Tp.evX g k lo.m.name own ri s') (by rw[zj,h2];rfl) (by rw[zj,h2];rfl) h hX hL hR ?_ hn
    simp only [if_neg h1,if_pos h2]
   ·refine pair_else (rr:=fun s'=>Tp.evX g k lo.m.name own ri s') ok h1 h2 h hX hL hR ?_ hn
    simp only [if_neg h1,if_neg h2]
 generalize (bindR (Tp.evX g k lo.m.name own le s) fun a s'=>if op=Tp.wAnd then (if a=0 then .ok 0 s' else bindR (Tp.evX g k lo.m.name own ri s') fun b s2=>.ok (Tp.b01 (b≠0)) s2) else if op=Tp.wOr then (if a≠0 then .ok 1 s' else bindR (Tp.evX g k lo.m.name own ri s') fun b s2=>.ok (Tp.b01 (b≠0)) s2) else bindR (Tp.evX g k lo.m.name own ri s') fun b s2=>bothR op a b s2)=res at *
 clear hb hb1 h hs hx hexl hexr rl rr hw hwl hwr hl1 hr1 hE hX hng hL hR
 cases res with
 | gas=>exact absurd rfl hn
 | stop way s' =>
  clear hn
  go_enter Tryz.func150,Tryz.ntmps150
  go_wp2_with fail
  refine HP.out.mono ?_
  rintro e w2 ⟨⟨older,rfl⟩,hg2,hk2⟩
  have HG2:=zh hg2
  have HK2:=zh hk2
  clear hg2 hk2
  go_wp2_with fail
  exact⟨rfl,⟨older,rfl⟩,HG2.out,HK2.out⟩
 | ok v s' =>
  clear hn
  go_enter Tryz.func150,Tryz.ntmps150
  go_wp2_with fail
  refine HP.out.mono ?_
  rintro e w2 ⟨rfl,hq⟩
  have HQ:=zh hq
  clear hq
  go_wp2_with fail
  go_ret
  exact⟨rfl,HQ.out⟩
def ownL (l:List (Bs× Int)):Own:=fun q=>(l.find? fun x=>x.1 == q).map (·.2)
def ownF (l:List (Bs× Int)):Bs->Option Value:=fun q=>(ownL l q).map fun v=>.int .i64 v
theorem ownF_add {l:List (Bs× Int)}{n:Bs}{v:Int}(h:n ∉ l.map (·.1)):updV (ownF l) n (.int .i64 v)=ownF (l++[(n,v)]):=by
 funext q
 unfold updV ownF ownL
 rw[List.find?_append]
 by_cases e:q=n
 ·subst e
  rw[if_pos rfl]
  have:l.find? (fun x=>x.1 == q)=none:=by
   rw[List.find?_eq_none]
   intro x hx hq
   exact h (List.mem_map.2 ⟨x,hx,by simpa using hq⟩)
  rw[this]
  simp
 ·rw[if_neg e]
  have:([(n,v)]:List (Bs× Int)).find? (fun x=>x.1 == q)=none:=by
   rw[List.find?_eq_none]
   intro x hx
   simp at hx
   subst hx
   simpa using fun e2=>e e2.symm
  rw[this]
  simp
def ownAll (p:Pr) (vs:List Int):List (Bs× Int):=p.params.zip vs++p.vars.map fun n=>(n,0)
theorem vz (p:Pr) (vs:List Int):ownL (ownAll p vs)=Tp.ownFor p vs:=by
 funext q
 unfold ownL ownAll Tp.ownFor
 rw[List.find?_append]
 cases h:(p.params.zip vs).find? (fun x=>x.1 == q) with
 | some x=>simp
 | none =>
  simp only [Option.none_or]
  by_cases hq:q∈p.vars
  ·rw[if_pos hq]
   have:(p.vars.map fun n=>(n,(0:Int))).find? (fun x=>x.1 == q)=some (q,0):=by
    rw[List.find?_map]
    have h2:p.vars.find? ((fun x:Bs× Int=>x.1 == q) ∘ fun n=>(n,0))=some q:=by
     obtain⟨y,hy⟩:=Option.isSome_iff_exists.1 (List.find?_isSome.2 ⟨q,hq,by simp⟩:(p.vars.find? ((fun x:Bs× Int=>x.1 == q) ∘ fun n=>(n,0))).isSome=true)
     have:=List.find?_some hy
     rw[hy]
     congr 1
     simpa using this
    rw[h2]
    rfl
   rw[this]
   rfl
  ·rw[if_neg hq]
   have:(p.vars.map fun n=>(n,(0:Int))).find? (fun x=>x.1 == q)=none:=by
    rw[List.find?_eq_none]
    intro x hx h3
    obtain⟨y,hy,rfl⟩:=List.mem_map.1 hx
    simp at h3
    exact hq (h3 ▸ hy)
   rw[this]
   rfl
theorem jw {p:Pr}{vs:List Int}(h:vs.length=p.params.length):(ownAll p vs).map (·.1)=Tp.ownOf p:=by
 unfold ownAll Tp.ownOf
 rw[List.map_append,List.map_map]
 congr 1
 ·rw[List.map_fst_zip (by omega)]
 ·simp[Function.comp_def]
theorem ownFor_dom {p:Pr}{vs:List Int}(h:vs.length=p.params.length) (q:Bs):(Tp.ownFor p vs q).isSome=true↔q∈Tp.ownOf p:=by
 rw[<-vz,<-jw h]
 unfold ownL
 rw[Option.isSome_map,List.find?_isSome]
 simp
theorem ownFor_i64 {p:Pr}{vs:List Int}(h:∀ v∈vs,Tp.I64 v):∀ q v,Tp.ownFor p vs q=some v->Tp.I64 v:=by
 intro q v hv
 unfold Tp.ownFor at hv
 cases hz:(p.params.zip vs).find? (fun x=>x.1 == q) with
 | some x =>
  rw[hz]at hv
  simp at hv
  subst hv
  have:=List.mem_of_find?_eq_some hz
  exact h _ (List.of_mem_zip (a:=x.1) (b:=x.2) this).2
 | none =>
  rw[hz]at hv
  simp only at hv
  split at hv
  ·cases hv;decide
  ·cases hv
theorem uC {p:Pr}{vs:List Int}(h:vs.length=p.params.length) (hn:(Tp.ownOf p).Nodup) (j:Nat) (n:Bs) (v:Int) (hj:(ownAll p vs)[j]?=some (n,v)):updV (ownF ((ownAll p vs).take j)) n (.int .i64 v)=ownF ((ownAll p vs).take (j+1)):=by
 obtain⟨hl,e⟩:=List.getElem?_eq_some_iff.1 hj
 rw[List.take_succ_eq_append_getElem hl,e]
 refine ownF_add ?_
 rw[<-jw h]at hn
 intro hm
 rw[List.map_take]at hm
 obtain⟨i,hi,e2⟩:=List.getElem_of_mem hm
 rw[List.length_take,List.length_map]at hi
 rw[List.getElem_take]at e2
 have h1:((ownAll p vs).map (·.1))[j]'(by simpa using hl)=n:=by simp[e]
 have:=(List.getElem_inj (h₀:=by simp;omega) (h₁:=by simpa using hl) hn).1 (e2.trans h1.symm)
 omega
theorem ownAll_par {p:Pr}{vs:List Int}(h:vs.length=p.params.length) {i:Nat}(hi:i<p.params.length):(ownAll p vs)[i]?=some (p.params[i],vs[i]'(by omega)):=by
 unfold ownAll
 rw[List.getElem?_append_left (by simp;omega)]
 rw[List.getElem?_eq_getElem (by simp;omega)]
 simp
theorem ownAll_var {p:Pr}{vs:List Int}(h:vs.length=p.params.length) {i:Nat}(hi:i<p.vars.length):(ownAll p vs)[p.params.length+i]?=some (p.vars[i],0):=by
 unfold ownAll
 rw[List.getElem?_append_right (by simp;omega)]
 simp[h,hi]
theorem ownAll_len {p:Pr}{vs:List Int}(h:vs.length=p.params.length):(ownAll p vs).length=p.params.length+p.vars.length:=by simp[ownAll,h]
structure IntsAt (w:World) (vs:List Int) (a:Option Addr):Prop where
 c:∀ i (h:i<vs.length),∃ b o,a=some ⟨b,o,none⟩/\b<w.heap.size/\w.cell? ⟨b,o+i,none⟩=some (.int .i64 vs[i])
theorem IntsAt.on {w w':World}{vs:List Int}{a:Option Addr}(h:IntsAt w vs a) (k:Below w.heap.size w w'):IntsAt w' vs a :=
 ⟨fun i hi=>by obtain⟨b,o,h1,h2,h3⟩:=h.c i hi;exact⟨b,o,h1,Nat.lt_of_lt_of_le h2 k.size,(k.cell (p:=⟨b,o+i,none⟩) h2).trans h3⟩⟩
theorem GS.outlt {c:Cx}{w:World}{s:Rs}{k:Nat}(h:GS c w s k) {b:Nat}(hb:OutB c w b):b<w.heap.size:=by
 obtain⟨ov,h1,h2⟩:=h.blk
 obtain⟨v,h3,h4⟩:=hb
 rw[za h1]at h3
 cases h3
 exact(h2.lt b h4).2
def oY (ob:Option Nat) (b:Nat):Prop:=ob=some b
def BodyP (c:Cx) (k:Nat) (ob:Option Nat) (w:World) (s:Rs) (r:Rr (Own× Option Int)) (e:Ending) (w':World):Prop:=match r with
 | .ok r1 s'=>e=.returned (.int .i64 (r1.2.getD 0))/\GS c w' s' k/\Kp c (oY ob) w w'/\s'.left<=s.left/\Tp.I64 (r1.2.getD 0)
 | .stop way s'=>thrE endT (way:Int) e/\(∃ k',GS c w' s' k')/\Kp c (oY ob) w w'
 | .gas=>True
structure Ss (c:Cx) (lo:Lo) (names:List Bs) (l:List S) (v:Value):Prop where
 rep:∃ cs,RepS c.w0 c.D l cs/\OwnS c.w0 c.D v l.length cs
 ws:Tp.WS l
 fit:∀ r∈Tp.rs l,Tp.FitR c.ms lo.m names r
theorem OwnS.len {w:World}{D:Nat->Prop}{v:Value}{n:Nat}{cs:List Value}(h:OwnS w D v n cs):n<=9223372036854775807:=by
 rcases h with⟨_,h⟩|⟨g,cap,cur,_,_,_,h4,h5,_⟩
 ·omega
 ·unfold maxLen at h5;omega
def BodyC (c:Cx) (g:Nat):Prop:=∀(k:Nat) (lo:Lo) (own:Own) (names:List Bs) (l:List S) (v:Value) (w:World) (s:Rs) (sb:Nat) (ob:Option Nat),
 Ss c lo names l v->GS c w s k->Sc c w sb ob lo own names s.left->Tp.goS g k lo.m.name own l s≠.gas ->
 Calls Tryz.prog 43 #[.pointer (some ⟨sb,0,none⟩),v] w (BodyP c k ob w s (Tp.goS g k lo.m.name own l s))
def CallC (c:Cx) (g:Nat):Prop:=∀(k:Nat) (lo:Lo) (nm:Bs) (p:Pr) (vs:List Int) (w:World) (s:Rs) (aa:Option Addr) (ac:Nat),
 lo∈c.L->Tp.procIn lo.m nm=some p->vs.length=p.params.length->(∀ v∈vs,Tp.I64 v)->GS c w s k->IntsAt w vs aa->Tp.callP g k lo.m.name p vs s≠.gas ->
 Calls Tryz.prog 56 #[.pointer (some ⟨c.gb,0,none⟩),.pointer (some ⟨lo.lb,0,none⟩),.string (bs nm),.slice aa vs.length ac] w (EvP c k w s (Tp.callP g k lo.m.name p vs s))
theorem Row.str {w:World}{D:Nat->Prop}{v:Value}{ns:List Bs}(h:Row w D 9 1 v ns.length (strs ns)):∃ a c,v=.slice a ns.length c/\∀ i (hi:i<ns.length),∃ b,a=some ⟨b,0,none⟩/\D b/\w.cell? ⟨b,i,none⟩=some (.string (bs ns[i])):=by
 obtain⟨a,c,rfl⟩:=h.shape
 refine⟨a,c,rfl,fun i hi=>?_⟩
 obtain⟨g,cap,q1,q2,q3,q4⟩:=yt h (by omega)
 cases q1
 refine⟨g,rfl,q2,?_⟩
 rw[q4 i (by omega)]
 simp[strs,hi]
theorem callP_eq (g k:Nat) (m:Bs) (p:Pr) (vs:List Int) (s:Rs):Tp.callP (g+1) k m p vs s=if 30<=k then .stop Tp.deep s else (match Tp.goS g (k+1) m (Tp.ownFor p vs) p.body s with
  | .ok r s'=>.ok (r.2.getD 0) s'
  | .stop way s'=>.stop way s'
  | .gas=>.gas):=by
 rw[Tp.callP]
 by_cases h:30<=k
 ·rw[if_pos h,if_pos h];rfl
 ·rw[if_neg h,if_neg h]
  unfold Tp.Ru.bind
  cases Tp.goS g (k+1) m (Tp.ownFor p vs) p.body s <;> rfl
theorem call_all {c:Cx}{g:Nat}(ok:CxOk c) (hB:BodyC c g):CallC c (g+1):=by
 intro k lo nm p vs w s aa ac hlo hp hvl hvi h hargs hn
 rw[callP_eq]at hn ⊢
 obtain⟨res,hres⟩:∃ res,res=(if 30<=k then .stop Tp.deep s else (match Tp.goS g (k+1) lo.m.name (Tp.ownFor p vs) p.body s with
  | .ok r s'=>.ok (r.2.getD 0) s'
  | .stop way s'=>.stop way s'
  | .gas=>.gas):Rr Int):=⟨_,rfl⟩
 rw[<-hres]at hn ⊢
 have hgl:=h.lt
 have hpm:p∈lo.m.procs:=List.mem_of_find?_eq_some hp
 have hfit:=(ok.lo lo hlo).fit
 have hwp:=hfit.wm.p p hpm
 have hnd:=hfit.on p hpm
 have HPR:=zh (rproc h ok hlo nm)
 have HH:=zh h
 have HOK:=zh ok
 have HARG:=zh hargs
 have HFITB:Hid (∀ r∈Tp.rs p.body,Tp.FitR c.ms lo.m (Tp.ownOf p) r):=hfit.pr p hpm
 have HWP:=zh hwp
 have HND:=zh hnd
 have HVI:=zh hvi
 have HLO:=zh hlo
 have HP:Hid (Tp.procIn lo.m nm=some p):=hp
 obtain⟨ov,hblk,_⟩:=h.blk
 have HKB:=zh hblk
 have hkl:=h.kl
 have HPL:Hid (vs.length=p.params.length):=hvl
 have hpc:p.params.length+p.vars.length<=10:=hwp.c
 have hmm:=@run_makeMap Tryz.prog
 clear h ok hargs hfit hwp hnd hvi hlo hp hpm
 by_cases hk:30<=k
 ·have hk30:k=30:=by omega
  subst hk30
  rw[if_pos zn]at hres
  have HR:Hid (∀ W e,Below w.heap.size w W->thrE endT (Tp.deep:Int) e->EvP c 30 w s res e W):=fun W e hW he=>by rw[hres];exact⟨he,⟨30,HH.out.below HOK.out hW⟩,Kp.below hW HH.out.lt⟩
  have hk2:w.cell? ⟨c.gb,2,none⟩=some (.int .i64 30):=(za hblk).trans rfl
  clear hres hn hblk
  generalize vs.length=vn at *
  go_enter Tryz.func56,Tryz.ntmps56
  go_wp2_with fail
  refine HPR.out.mono ?_
  rintro e w1 ⟨v,rfl,_,hb1⟩
  have k2:=(hb1.cell (p:=⟨c.gb,2,none⟩) hgl).trans hk2
  have hgl1:c.gb<w1.heap.size:=Nat.lt_of_lt_of_le hgl hb1.size
  have HB1:=zh hb1
  clear hb1
  go_wp2_with fail
  exact⟨rfl,HR.out _ _ HB1.out ⟨noP,rfl⟩⟩
 ·rw[if_neg hk]at hres
  have hk2:w.cell? ⟨c.gb,2,none⟩=some (.int .i64 (k:Int)):=(za hblk).trans rfl
  have hkk:¬(k:Int)=30:=by omega
  have HRES:Hid (res=_):=hres
  have HN:=zh hn
  clear hres hn hblk
  have hvpn:vs.length=p.params.length:=HPL.out
  generalize hvn:vs.length=vn at *
  go_enter Tryz.func56,Tryz.ntmps56
  go_wp2_with fail
  refine HPR.out.mono ?_
  rintro e w1 ⟨v,rfl,hpp,hb1⟩
  unfold ProcP at hpp
  rw[HP.out]at hpp
  obtain⟨pb,o,rfl,hpat⟩:=hpp
  obtain⟨pv,vv,bv,bcs,r3,r4,r5,rw3,rw4,rs5,ro5⟩:=hpat.r
  have hg1:=HH.out.below HOK.out hb1
  have k2:=(hb1.cell (p:=⟨c.gb,2,none⟩) hgl).trans hk2
  have hgl1:c.gb<w1.heap.size:=Nat.lt_of_lt_of_le hgl hb1.size
  obtain⟨p3a,p3c,rfl,hp3⟩:=rw3.str
  obtain⟨p4a,p4c,rfl,hp4⟩:=rw4.str
  have c3:=hg1.cell0 hpat.d r3
  have hpbl:=zg c3
  obtain⟨w2,hw2⟩:∃ w2,w2=w1.alloc (.map #[] 0):=⟨_,rfl⟩
  have hb12:Below w1.heap.size w1 w2:=by rw[hw2];exact zb _ _
  have hm2:MapV w2 w1.heap.size 0 (ownF ((ownAll p vs).take 0)):=by rw[hw2];exact MapV.made w1
  have hs2:w1.heap.size<w2.heap.size:=by rw[hw2];simp
  have c3':=(hb12.cell (p:=⟨pb,o+3,none⟩) hpbl).trans c3
  have hpbl2:pb<w2.heap.size:=by omega
  have hvp:vs.length=p.params.length:=by rw[hvn];exact HPL.out
  obtain⟨pn,hpn⟩:∃ pn,pn=p.params.length:=⟨_,rfl⟩
  obtain⟨qn,hqn⟩:∃ qn,qn=p.vars.length:=⟨_,rfl⟩
  have HP3:Hid (∀ i,i<pn->∃ b x u ab ao,p3a=some ⟨b,0,none⟩/\b<w1.heap.size/\w1.cell? ⟨b,i,none⟩=some (.string (bs x))/\(ownAll p vs)[i]?=some (x,u)/\x.length<=1000000/\aa=some ⟨ab,ao,none⟩/\ab<w1.heap.size/\w1.cell? ⟨ab,ao+i,none⟩=some (.int .i64 u)):=by
   intro i hi
   rw[hpn]at hi
   obtain⟨b,e1,e2,e3⟩:=hp3 i hi
   obtain⟨ab,ao,a1,a2,a3⟩:=(HARG.out.on hb1).c i (by omega)
   have e4:=hg1.cell0 e2 e3
   exact⟨b,_,_,ab,ao,e1,zg e4,e4,ownAll_par hvp hi,zQ (HWP.out.ps _ (List.getElem_mem hi)),a1,a2,a3⟩
  have HP4:Hid (∀ i,i<qn->∃ b x,p4a=some ⟨b,0,none⟩/\b<w1.heap.size/\w1.cell? ⟨b,i,none⟩=some (.string (bs x))/\(ownAll p vs)[pn+i]?=some (x,0)/\x.length<=1000000):=by
   intro i hi
   rw[hqn]at hi
   obtain⟨b,e1,e2,e3⟩:=hp4 i hi
   have e4:=hg1.cell0 e2 e3
   rw[hpn]
   exact⟨b,_,e1,zg e4,e4,ownAll_var hvp hi,zQ (HWP.out.vs _ (List.getElem_mem hi))⟩
  have HTK:Hid (∀ j n v,(ownAll p vs)[j]?=some (n,v)->updV (ownF ((ownAll p vs).take j)) n (.int .i64 v)=ownF ((ownAll p vs).take (j+1))):=fun j n v hj=>uC hvp HND.out j n v hj
  have HALL:Hid (ownF ((ownAll p vs).take (pn+qn))=fun q=>(Tp.ownFor p vs q).map fun v=>.int .i64 v):=by
   show _=_
   rw[List.take_of_length_le (by rw[ownAll_len hvp];omega)]
   unfold ownF
   rw[vz]
  have HDOM:Hid (∀ q,(Tp.ownFor p vs q).isSome=true↔q∈Tp.ownOf p):=ownFor_dom hvp
  have HI64:Hid (∀ q v,Tp.ownFor p vs q=some v->Tp.I64 v):=ownFor_i64 HVI.out
  have HG1:=zh hg1
  have HB1:=zh hb1
  have HB12:=zh hb12
  have HM2:=zh hm2
  have c4:=hg1.cell0 hpat.d r4
  have c5:=hg1.cell0 hpat.d r5
  rw[<-hqn]at c4
  have HC4:=zh c4
  have HBD:Hid (Ss c lo (Tp.ownOf p) p.body bv):=⟨⟨bcs,rs5,ro5⟩,HWP.out.b,HFITB.out⟩
  obtain⟨ba,bc,hbv⟩:=ro5.shape
  rw[hbv]at c5 HBD
  have HC5:=zh c5
  have HK2:=zh k2
  have HPB:Hid (pb<c.gb):=hpat.d.1
  have hpc':pn+qn<=10:=by omega
  have HVN:Hid (vn=pn):=hvpn.trans hpn.symm
  clear hvpn
  rw[<-hpn]at c3'
  clear hpat hb1 hb12 hm2 r3 r4 r5 rw3 rw4 rs5 ro5 hp3 hp4 hg1 c3 hbv hvp c4 c5 hpn hqn hpc HPL HWP HND HVI HARG hpbl
  generalize hbn:p.body.length=bn at *
  have hpn':(pn:Int)<=10:=by omega
  have hqn':(qn:Int)<=10:=by omega
  go_upto_region 5 with fail
  rw[<-hw2]
  clear hw2 k2
  go_wp2_with fail
  have hkb:((k:Int) == 30)=false:=by simpa using hkk
  simp only [hkb]
  clear hkb hkk
  go_loopg [32] pn (fun k vi wr=>∃ i:Nat,i<=pn/\k=pn - i/\vi=.int .i64 (i:Int)/\Hid (MapV wr w1.heap.size i (ownF ((ownAll p vs).take i)))/\Hid (Ext w1.heap.size w2 wr))
  case atStart=>exact⟨0,by omega,by omega,rfl,HM2,Ext.refl _ _⟩
  case round =>
   obtain⟨i,hid,hkk,rfl,HM,HE⟩:=hrel
   have hszr:=HE.out.size
   by_cases hlt:i<pn
   ·have hlt':(i:Int)<(pn:Int):=by omega
    obtain⟨b,x,u,ab,ao,rfl,hbl,hbc,hat,hxl,rfl,hal,hac⟩:=HP3.out i hlt
    have kb:wr.cell? ⟨b,i,none⟩=some (.string (bs x)):=HE.out.cell ((HB12.out.cell (p:=⟨b,i,none⟩) hbl).trans hbc) (by simp;omega)
    have ka:wr.cell? ⟨ab,ao+i,none⟩=some (.int .i64 u):=HE.out.cell ((HB12.out.cell (p:=⟨ab,ao+i,none⟩) hal).trans hac) (by simp;omega)
    have hblr:b<wr.heap.size:=by omega
    have halr:ab<wr.heap.size:=by omega
    have hvlt:(i:Int)<(vn:Int):=by have:=HVN.out;omega
    have HT:=zh (HTK.out i x u hat)
    clear hbc hac hat
    go_wp2_with (at_mapUpdate;refine yf _ rfl _ _ _ 96 rfl _ Tryz.underlying96 w1.heap.size i _ HM.out (by omega) x hxl (.int .i64 u) rfl rfl rfl ?_)
    intro w3 q1 q2 q3
    have HM3:Hid (MapV w3 w1.heap.size (i+1) (ownF ((ownAll p vs).take (i+1)))):=by
     show MapV _ _ _ _
     rw[<-HT.out]
     exact q1
    have HE3:Hid (Ext w1.heap.size w2 w3):=HE.out.trans q2
    clear q1 q2 q3
    go_wp2_with fail
    go_roundg (pn - (i+1))
    case measure=>omega
    case rel=>exact⟨i+1,by omega,rfl,by go_num,HM3,HE3⟩
   ·have hlt':¬(i:Int)<(pn:Int):=by omega
    have hei:i=pn:=by omega
    subst hei
    have k4:wr.cell? ⟨pb,o+4,none⟩=some (.slice p4a qn p4c):=HE.out.cell ((HB12.out.cell (p:=⟨pb,o+4,none⟩) (zg HC4.out)).trans HC4.out) (by have:=zg HC4.out;simp;omega)
    have hpbr:pb<wr.heap.size:=by omega
    have HM1:Hid (MapV wr w1.heap.size (i+0) (ownF ((ownAll p vs).take (i+0)))):=HM
    have HE1:=HE
    clear HM HE HP3 c3' hpbl2 HM2
    go_wp2_with fail
    go_loopg [49] qn (fun k vi wr=>∃ j:Nat,j<=qn/\k=qn - j/\vi=.int .i64 (j:Int)/\Hid (MapV wr w1.heap.size (i+j) (ownF ((ownAll p vs).take (i+j))))/\Hid (Ext w1.heap.size w2 wr))
    case atStart=>exact⟨0,by omega,by omega,rfl,HM1,HE1⟩
    case round =>
     obtain⟨j,hjd,hkk2,rfl,HM,HE⟩:=hrel
     have hszr2:=HE.out.size
     clear HM1 HE1 k4 hpbr
     by_cases hlt2:j<qn
     ·have hlt2':(j:Int)<(qn:Int):=by omega
      obtain⟨b,x,rfl,hbl,hbc,hat,hxl⟩:=HP4.out j hlt2
      have kb:wr.cell? ⟨b,j,none⟩=some (.string (bs x)):=HE.out.cell ((HB12.out.cell (p:=⟨b,j,none⟩) hbl).trans hbc) (by simp;omega)
      have hblr:b<wr.heap.size:=by omega
      have HT:=zh (HTK.out (i+j) x 0 hat)
      clear hbc hat
      go_wp2_with (at_mapUpdate;refine yf _ rfl _ _ _ 96 rfl _ Tryz.underlying96 w1.heap.size (i+j) _ HM.out (by omega) x hxl (.int .i64 0) rfl rfl rfl ?_)
      intro w3 q1 q2 q3
      have HM3:Hid (MapV w3 w1.heap.size (i+(j+1)) (ownF ((ownAll p vs).take (i+(j+1))))):=by
       show MapV _ _ _ _
       rw[<-Nat.add_assoc,<-HT.out]
       exact q1
      have HE3:Hid (Ext w1.heap.size w2 w3):=HE.out.trans q2
      clear q1 q2 q3
      go_wp2_with fail
      go_roundg (qn - (j+1))
      case measure=>omega
      case rel=>exact⟨j+1,by omega,rfl,by go_num,HM3,HE3⟩
     ·have hlt2':¬(j:Int)<(qn:Int):=by omega
      have hej:j=qn:=by omega
      subst hej
      have hb1r:Below w1.heap.size w1 wr:=HB12.out.trans (zX HE.out zn (by omega))
      have hgr:=HG1.out.below HOK.out hb1r
      have HB1R:=zh hb1r
      have HGR:=zh hgr
      have j2:wr.cell? ⟨c.gb,2,none⟩=some (.int .i64 (k:Int)):=(hb1r.cell (p:=⟨c.gb,2,none⟩) hgl1).trans HK2.out
      obtain⟨ovr,hbr,hownr⟩:=hgr.blk
      have z2:wr.frozen? ⟨c.gb,2,none⟩=false:=zi hbr
      have hglr:c.gb<wr.heap.size:=zf hbr
      have k29:(k:Int)<=29:=by omega
      have hg4:=hgr.wait HOK.out (k':=k+1) (by omega)
      have hkp4:Kp c nY wr (wr.setCell ⟨c.gb,2,none⟩ (.int .i64 ((k+1:Nat):Int))):=Kp.reg hgr (by omega)
      have ewr:wr.setCell ⟨c.gb,2,none⟩ (.int .i64 ((k:Int)+1))=wr.setCell ⟨c.gb,2,none⟩ (.int .i64 ((k+1:Nat):Int)):=by rw[Int.natCast_add];rfl
      obtain⟨w4,hw4⟩:∃ w4,w4=wr.setCell ⟨c.gb,2,none⟩ (.int .i64 ((k:Int)+1)):=⟨_,rfl⟩
      rw[<-ewr,<-hw4]at hg4 hkp4
      obtain⟨w5,hw5⟩:∃ w5,w5=w4.alloc (.cells #[.pointer (some ⟨c.gb,0,none⟩),.pointer (some ⟨lo.lb,0,none⟩),.map (some w1.heap.size)] 98):=⟨_,rfl⟩
      have hb45:Below w4.heap.size w4 w5:=by rw[hw5];exact zb _ _
      have hg5:=hg4.below HOK.out hb45
      have hs4:w4.heap.size=wr.heap.size:=by rw[hw4];simp
      have hs5:w4.heap.size<w5.heap.size:=by rw[hw5];simp
      have hkp5:Kp c nY wr w5:=hkp4.trans (Kp.below hb45 (by omega))
      have hkp05:Kp c nY w w5:=(Kp.below (HB1.out.trans (hb1r.mono (by have:=HB1.out.size;omega))) hgl).trans hkp5
      have hnew:∀ b,w.heap.size<=b->b<w5.heap.size->¬OutB c w5 b\/wr.heap.size<=b:=fun b h1 h2=>by
       by_cases hq:OutB c w5 b
       ·rcases hkp05.out b hq with z|z
        ·have:=HH.out.outlt z;omega
        ·by_cases hz:wr.heap.size<=b
         ·exact Or.inr hz
         ·rcases hkp5.out b hq with y|y
          ·have y2:OutB c w b:=(yr ((HB1.out.trans (hb1r.mono (by have:=HB1.out.size;omega))).block c.gb hgl) b).1 y
           have:=HH.out.outlt y2;omega
          ·exact absurd y hz
       ·exact Or.inl hq
      have hno5:¬OutB c w5 w4.heap.size:=fun hq=>by
       rcases hkp5.out _ hq with y|y
       ·have:=hgr.outlt y;omega
       ·have y2:OutB c w4 w4.heap.size:=(yr (hb45.block c.gb (by omega)) _).1 hq
        have:=hg4.outlt y2;omega
      have hnob:¬OutB c w5 w1.heap.size:=fun hq=>by
       rcases hnew w1.heap.size HB1.out.size (by omega) with z|z
       ·exact z hq
       ·omega
      have hmap5:MapV w5 w1.heap.size (i+j) (fun q=>(Tp.ownFor p vs q).map fun v=>.int .i64 v):=by
       rw[<-HALL.out]
       refine HM.out.on ?_
       rw[hb45.block _ (by omega),hw4]
       exact zx _ (by omega)
      have hsc:Sc c w5 w4.heap.size (some w1.heap.size) lo (Tp.ownFor p vs) (Tp.ownOf p) s.left:=by
       refine⟨by omega,hno5,by rw[hw5];exact zo _ _,⟨by omega,by omega,hnob,i+j,?_,hmap5⟩,HI64.out,HDOM.out,HLO.out⟩
       have:=HH.out.ll
       omega
      have hnb:Tp.goS g (k+1) lo.m.name (Tp.ownFor p vs) p.body s≠.gas:=fun e=>HN.out (by rw[HRES.out,e])
      have HBC:=zh (hB (k+1) lo (Tp.ownFor p vs) (Tp.ownOf p) p.body (.slice ba bn bc) w5 s w4.heap.size (some w1.heap.size) HBD.out hg5 hsc hnb)
      rw[hs4]at HBC
      have HK05:=zh hkp05
      have hgb5:w5.heap[pb]?=w1.heap[pb]?:=by
       have hpl:=zg HC5.out
       rw[hb45.block pb (by omega),hw4,zx pb (by have:=HPB.out;omega)]
       exact hb1r.block pb hpl
      have k5:w5.cell? ⟨pb,o+5,none⟩=some (.slice ba bn bc):=(World.cell?_of_block (w:=w1) hgb5).trans HC5.out
      have hpb5:pb<w5.heap.size:=zg k5
      have HFR:Hid (∀ w6 w7,Kp c (oY (some w1.heap.size)) w5 w6->Kp c nY w6 w7->Kp c nY w w7):=fun w6 w7 a b=>(hkp05.fresh a (fun b hb=>by injection hb with hb;rw[<-hb];exact HB1.out.size)).trans b
      clear hb1r hgr hbr hownr hg4 hkp4 hb45 hg5 hs5 hkp5 hkp05 hnew hno5 hnob hmap5 hsc hgb5 ewr
      have HRS:=HRES.out
      cases hgo:Tp.goS g (k+1) lo.m.name (Tp.ownFor p vs) p.body s with
      | gas=>exact absurd hgo hnb
      | stop way s' =>
       rw[hgo]at HBC HRS
       have HR:Hid (∀ w6 e,thrE endT (way:Int) e->(∃ k',GS c w6 s' k')->Kp c (oY (some w1.heap.size)) w5 w6->EvP c k w s res e w6):=fun w6 e a1 a2 a3=>by rw[HRS];exact⟨a1,a2,HFR.out _ _ a3 (Kp.refl _ _ _)⟩
       clear HRS hgo hnb
       go_upto_region 17 with fail
       rw[<-hw4,<-hw5]
       clear hw4 hw5 j2 z2
       go_wp2_with fail
       refine HBC.out.mono ?_
       rintro e w6 ⟨⟨older,rfl⟩,hg6,hk6⟩
       have HG6:=zh hg6
       have HK6:=zh hk6
       clear hg6 hk6
       go_wp2_with fail
       exact⟨rfl,HR.out _ _ ⟨older,rfl⟩ HG6.out HK6.out⟩
      | ok r s' =>
       rw[hgo]at HBC HRS
       have HR:Hid (∀ w6 w7,GS c w7 s' k->s'.left<=s.left->Tp.I64 (r.2.getD 0)->Kp c (oY (some w1.heap.size)) w5 w6->Kp c nY w6 w7->EvP c k w s res (.returned (.int .i64 (r.2.getD 0))) w7):=fun w6 w7 a1 a2 a3 a4 a5=>by rw[HRS];exact⟨rfl,a1,HFR.out _ _ a4 a5,a2,a3⟩
       clear HRS hgo hnb
       go_upto_region 17 with fail
       rw[<-hw4,<-hw5]
       clear hw4 hw5 j2 z2
       go_wp2_with fail
       refine HBC.out.mono ?_
       rintro e w6 ⟨rfl,hg6,hk6,hl6,hi6⟩
       have hg7:=hg6.wait HOK.out (k':=k) (by omega)
       have hk7:Kp c nY w6 (w6.setCell ⟨c.gb,2,none⟩ (.int .i64 (k:Int))):=Kp.reg hg6 (by omega)
       obtain⟨ov6,hb6,_⟩:=hg6.blk
       have m2:w6.cell? ⟨c.gb,2,none⟩=some (.int .i64 ((k:Int)+1)):=(za hb6).trans (by simp[gcells4])
       have mz:w6.frozen? ⟨c.gb,2,none⟩=false:=zi hb6
       have hgl6:=zf hb6
       have HG7:=zh hg7
       have HK7:=zh hk7
       have HK6:=zh hk6
       have HL6:=zh hl6
       have HI6:=zh hi6
       have ek:((k:Int)+1) - 1=(k:Int):=by omega
       clear hg6 hk6 hl6 hi6 hg7 hk7 hb6
       generalize r.2.getD 0=rv at *
       go_wp2_with fail
       go_ret
       first
        | exact HR.out _ _ HG7.out HL6.out HI6.out HK6.out HK7.out
        | (rw[ek];exact HR.out _ _ HG7.out HL6.out HI6.out HK6.out HK7.out)
theorem ta_told (n:Int) (w:World):(Instr.typeAssert (.iface 155 (.int .i64 n)) 20 155 true).run Tryz.prog w=.ok (.tuple #[.int .i64 n,.bool true]) w:=by kernel_rfl
theorem ta_end (n:Int) (w:World):(Instr.typeAssert (.iface 173 (.int .i64 n)) 20 155 true).run Tryz.prog w=.ok (.tuple #[.int .i64 0,.bool false]) w:=by kernel_rfl
theorem ta_nil (w:World):(Instr.typeAssert .nilIface 20 155 true).run Tryz.prog w=.ok (.tuple #[.int .i64 0,.bool false]) w:=by kernel_rfl
theorem blate_told (nb:Nat) (n:Int) (older:List PanicEntry) (w:World) {old:Value}(hc:w.cell? ⟨nb,0,none⟩=some old) (hz:w.frozen? ⟨nb,0,none⟩=false) :
  CallsD Tryz.prog 87 #[.pointer (some ⟨nb,0,none⟩)] (.panicking ({ v:=.iface toldT (.int .i64 n),recovered:=false } :: older)) w fun e u' w' =>
   e=.returned (.tuple #[])/\u'=.panicking ({ v:=.iface toldT (.int .i64 n),recovered:=true } :: older)/\w'=w.setCell ⟨nb,0,none⟩ (.int .i64 n):=by
 unfold toldT
 refine callsD_of_wpS Tryz.func87 rfl fun c₀ cs hu=>?_
 apply wpS_seq
 apply wpS_region
 simp[wpOpsS,go_sem,recoverD,hu,Tryz.ntmps87,Exit.thenS]
 refine wpS_of_wp ?_
 have hta:=ta_told n
 have hnl:=zg hc
 generalize hQ:(fun (e:Exit) (a':Act) (w':World)=>bodyPostS Tryz.prog _ _ _ _ e a' _ w')=Q
 show Code.wp Tryz.prog _ _ { tmps:=#[.pointer (some ⟨nb,0,none⟩),.iface 155 (.int .i64 n),undef,undef,.iface 155 (.int .i64 n),undef,undef,undef,undef,undef,undef,undef,undef,undef,undef],defers:=[] } w
 go_wp2_with fail
 subst hQ
 simp[bodyPostS,results,Tryz.results87]
theorem blate_end (nb:Nat) (n:Int) (older:List PanicEntry) (w:World) :
  CallsD Tryz.prog 87 #[.pointer (some ⟨nb,0,none⟩)] (.panicking ({ v:=.iface endT (.int .i64 n),recovered:=false } :: older)) w fun e u' w' =>
   e=.panicked [{ v:=.iface endT (.int .i64 n),recovered:=false }]/\u'=.panicking ({ v:=.iface endT (.int .i64 n),recovered:=true } :: older)/\w'=w:=by
 unfold endT
 refine callsD_of_wpS Tryz.func87 rfl fun c₀ cs hu=>?_
 apply wpS_seq
 apply wpS_region
 simp[wpOpsS,go_sem,recoverD,hu,Tryz.ntmps87,Exit.thenS]
 refine wpS_of_wp ?_
 have hta:=ta_end n
 generalize hQ:(fun (e:Exit) (a':Act) (w':World)=>bodyPostS Tryz.prog _ _ _ _ e a' _ w')=Q
 show Code.wp Tryz.prog _ _ { tmps:=#[.pointer (some ⟨nb,0,none⟩),.iface 173 (.int .i64 n),undef,undef,.iface 173 (.int .i64 n),undef,undef,undef,undef,undef,undef,undef,undef,undef,undef],defers:=[] } w
 go_wp2_with fail
 subst hQ
 simp[bodyPostS]
theorem blate_idle (nb:Nat) (w:World) :
  CallsD Tryz.prog 87 #[.pointer (some ⟨nb,0,none⟩)] .returning w fun e u' w'=>e=.returned (.tuple #[])/\u'=.returning/\w'=w:=by
 refine callsD_of_wpS Tryz.func87 rfl fun c₀ cs hu=>?_
 apply wpS_seq
 apply wpS_region
 simp[wpOpsS,go_sem,recoverD,hu,Tryz.ntmps87,Exit.thenS]
 refine wpS_of_wp ?_
 have hta:=ta_nil
 generalize hQ:(fun (e:Exit) (a':Act) (w':World)=>bodyPostS Tryz.prog _ _ _ _ e a' _ w')=Q
 show Code.wp Tryz.prog _ _ { tmps:=#[.pointer (some ⟨nb,0,none⟩),.nilIface,undef,undef,.nilIface,undef,undef,undef,undef,undef,undef,undef,undef,undef,undef],defers:=[] } w
 go_wp2_with fail
 subst hQ
 cases c₀
 simp_all [bodyPostS,results,Tryz.results87]
end Go.Proofs.YtibncofnnlbmcaaGreatDoor
