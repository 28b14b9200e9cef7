import Derived.Test.YtmocelfkmdpogaaGreatDoorKWb
import Derived.Deep.RegionHeld3
set_option maxRecDepth 100000
set_option maxHeartbeats 4000000
namespace Go.Proofs.YtmocelfkmdpogaaGreatDoor
open Go.RowKit
open Tp (Tok hd tx at' stp X)
def NamedC (p:Ps) (ts:List Tok) (f:Nat):Prop:=∀(w:World) (r:List Tok) (o b:Nat),St w p ts r o b->o<=10->Tp.ex f 6 o 0 [] r≠.error (99,0) ->
 Calls Tryz.prog 188 #[.pointer (some ⟨p.pb,0,none⟩)] w fun e w'=>Post p ts o b w (VX w.heap.size) (Tp.ex f 6 o 0 [] r) e w'
def OneC (p:Ps) (ts:List Tok) (f:Nat):Prop:=∀(w:World) (r:List Tok) (o b:Nat),St w p ts r o b->o<=11->Tp.ex f 5 o 0 [] r≠.error (99,0) ->
 Calls Tryz.prog 210 #[.pointer (some ⟨p.pb,0,none⟩)] w fun e w'=>Post p ts o b w (VX w.heap.size) (Tp.ex f 5 o 0 [] r) e w'
theorem one_deep {p:Ps}{ts:List Tok}{w:World}{r:List Tok}{o b:Nat}(h:St w p ts r o b) (ho:10<o) :
  Calls Tryz.prog 210 #[.pointer (some ⟨p.pb,0,none⟩)] w fun e w'=>Thrown w.heap.size (4,at' r) e w'/\Ext p.pb w w':=by
 have c3:=h.c3
 have ho':(10:Int)<(o:Int):=by omega
 clear ho
 go_enter Tryz.func210,Tryz.ntmps210
 go_wp2_with fail
 clear c3
 refine(zX h 4).mono ?_
 rintro e w2 ⟨ht,hb2⟩
 obtain⟨ab,h1,rfl,h2,h3⟩:=ht.out
 go_wp2_with fail
 exact⟨rfl,ht,Ext.below hb2⟩
theorem number_ok {w:World}{p:Ps}{ts r r1:List Tok}{o b n:Nat}(h:St w p ts r o b) (hr:Hid (Tp.number Tp.top r=.ok (n,r1))) :
  Calls Tryz.prog 95 #[.pointer (some ⟨p.pb,0,none⟩),.int .i64 9223372036854775807] w fun e w'=>e=.returned (.int .i64 (n:Int))/\St w' p ts r1 o b/\Ext p.pb w w':=by
 refine(ja h Tp.top (by unfold Tp.top;omega) zn).mono ?_
 intro e w' hq
 rw[hr.out]at hq
 obtain⟨v,h1,rfl,h2⟩:=hq
 exact⟨h1,h2⟩
theorem number_er {w:World}{p:Ps}{ts r:List Tok}{o b:Nat}{er:Tp.Er}(h:St w p ts r o b) (hr:Hid (Tp.number Tp.top r=.error er)) :
  Calls Tryz.prog 95 #[.pointer (some ⟨p.pb,0,none⟩),.int .i64 9223372036854775807] w fun e w'=>Thrown w.heap.size er e w'/\Ext p.pb w w':=by
 refine(ja h Tp.top (by unfold Tp.top;omega) zn).mono ?_
 intro e w' hq
 rw[hr.out]at hq
 exact hq
theorem one_number {p:Ps}{ts:List Tok}{w:World}{r:List Tok}{o b:Nat}(h:St w p ts r o b) (ho:¬10<o) (hk:(hd r).kind=2) (f:Nat) :
  Calls Tryz.prog 210 #[.pointer (some ⟨p.pb,0,none⟩)] w fun e w'=>Post p ts o b w (VX w.heap.size) (Tp.ex (f+1) 5 o 0 [] r) e w':=by
 have c3:=h.c3
 have hpl:=zc c3
 have ho':¬(10:Int)<(o:Int):=by omega
 have hk':(((hd r).kind:Int) == 2)=true:=by simp;omega
 have HE:Hid (Tp.ex (f+1) 5 o 0 [] r=(do let (n,r1) <- Tp.number Tp.top r;.ok ([⟨1,at' r,n,[],[],[],[],[],[]⟩],r1))):=by
  unfold Hid;rw[Tp.ex];simp[ho,hk]
 clear ho hk
 rcases hres:Tp.number Tp.top r with er|⟨n,r1⟩
 ·have HR:Hid (Tp.number Tp.top r=.error er):=hres
  clear hres
  go_enter Tryz.func210,Tryz.ntmps210
  go_wp2_with fail
  clear c3
  refine(zK h).mono ?_
  rintro e w1 ⟨rfl,hb1⟩
  have hba:∀ ob,Below w1.heap.size w1 (w1.alloc ob).drew:=fun ob=>(zb _ _).drew
  have HX:Hid (∀ ob,Ext p.pb w (w1.alloc ob).drew):=fun ob=>(Ext.below hb1).trans (Ext.below (hba ob))
  have HST:Hid (∀ ob,St (w1.alloc ob).drew p ts r o b):=fun ob=>(h.below hb1).below (hba ob)
  clear hba
  go_wp2_with fail
  go_region_dies
  all_goals (refine(number_er (HST.out _) HR).mono ?_;intro e w4 hq;obtain⟨ab,h1,h0,h2,h3⟩:=hq.1.out;subst h0;refine⟨rfl,?_⟩;rw[HE.out,HR.out];exact zt (HX.out _) hq.1 hq.2)
 ·have HR:Hid (Tp.number Tp.top r=.ok (n,r1)):=hres
  clear hres
  go_enter Tryz.func210,Tryz.ntmps210
  go_wp2_with fail
  clear c3
  refine(zK h).mono ?_
  rintro e w1 ⟨rfl,hb1⟩
  have hba:∀ ob,Below w1.heap.size w1 (w1.alloc ob).drew:=fun ob=>(zb _ _).drew
  have HX:Hid (∀ ob,Ext p.pb w (w1.alloc ob).drew):=fun ob=>(Ext.below hb1).trans (Ext.below (hba ob))
  have HST:Hid (∀ ob,St (w1.alloc ob).drew p ts r o b):=fun ob=>(h.below hb1).below (hba ob)
  have hsz1:=hb1.size
  clear hba
  go_wp2_with fail
  go_region_with (go_at_call 95;refine(number_ok (HST.out _) HR).mono ?_;rintro e w4 ⟨rfl,hst4,hx4⟩;have y1:w4.cell? ⟨w1.heap.size,1,none⟩=some (.int .i64 ((hd r).pos:Int)):=hx4.cell (by simp[go_sem]) (by simp;omega))
  all_goals
   have hsz4:=hx4.size
   simp at hsz4
   go_wp2_with fail
   go_ret
   rw[HE.out,HR.out]
   exact⟨_,rfl,VX.node (by omega) (zk w4 _) (Or.inl ⟨rfl,rfl⟩) (Or.inl ⟨rfl,rfl⟩) (Or.inl ⟨rfl,rfl⟩),hst4.below (zb _ _),((HX.out _).trans hx4).trans (Ext.below (zb _ _))⟩
theorem zV {w:World}{a:Addr}{v:Value}(h:w.cell? a=some v) (ob:Obj):(w.alloc ob).cell? a=some v:=(World.cell?_alloc_lt _ _ _ (World.block_lt_of_cell? _ _ h)).trans h
theorem ex5_un {f o:Nat}{r:List Tok}(ho:¬10<o) (hk:(hd r).kind≠2) (ht:tx r=Tp.mMinus\/tx r=Tp.wNot) :
  Tp.ex (f+1) 5 o 0 [] r=(do let (x,r1) <- Tp.ex f 5 (o+1) 0 [] (stp r);.ok ([⟨4,at' r,0,[],[],tx r,x,[],[]⟩],r1)):=by
 rw[Tp.ex];simp only [show ¬(5<5) by omega,if_false,if_true,ho,hk,ht]
theorem ex5_paren {f o:Nat}{r:List Tok}(ho:¬10<o) (hk:(hd r).kind≠2) (ht:tx r=Tp.mLp) :
  Tp.ex (f+1) 5 o 0 [] r=(do let (x,r1) <- Tp.ex f 0 (o+1) 0 [] (stp r);let r2 <- Tp.want Tp.mRp r1;.ok (x,r2)):=by
 rw[Tp.ex];simp only [show ¬(5<5) by omega,if_false,if_true,ho,hk,ht,show ¬(Tp.mLp=Tp.mMinus\/Tp.mLp=Tp.wNot) by decide]
theorem ex5_named {f o:Nat}{r:List Tok}(ho:¬10<o) (hk:(hd r).kind≠2) (h1:tx r≠Tp.mMinus) (h2:tx r≠Tp.wNot) (h3:tx r≠Tp.mLp) :
  Tp.ex (f+1) 5 o 0 [] r=Tp.ex f 6 o 0 [] r:=by
 rw[Tp.ex];simp only [show ¬(5<5) by omega,if_false,if_true,ho,hk,h1,h2,h3,or_self]
theorem ji {w:World}{p:Ps}{ts r:List Tok}{o b f:Nat}{er:Tp.Er}(hO:Hid (OneC p ts f)) (h:St w p ts r o b) (ho:o<=10) (hr:Hid (Tp.ex f 5 (o+1) 0 [] r=.error er)) (hne:Hid (er≠(99,0))) :
  Calls Tryz.prog 201 #[.pointer (some ⟨p.pb,0,none⟩),.func (.func 210) #[.pointer (some ⟨p.pb,0,none⟩)] #[]] w fun e w'=>Thrown w.heap.size er e w'/\Ext p.pb w w':=by
 have hq:Tp.ex f 5 (o+1) 0 [] r≠.error (99,0):=by rw[hr.out];intro e;exact hne.out (by injection e)
 have:=xx h (by omega) _ (fun w1 h1 _ _=>hO.out w1 r (o+1) b h1 (by omega) hq)
 rw[hr.out]at this
 exact this
theorem jh {w:World}{p:Ps}{ts r r1:List Tok}{o b f:Nat}{x:List X}(hO:Hid (OneC p ts f)) (h:St w p ts r o b) (ho:o<=10) (hr:Hid (Tp.ex f 5 (o+1) 0 [] r=.ok (x,r1))) :
  Calls Tryz.prog 201 #[.pointer (some ⟨p.pb,0,none⟩),.func (.func 210) #[.pointer (some ⟨p.pb,0,none⟩)] #[]] w fun e w'=>∃ bb,e=.returned (.pointer (some ⟨bb,0,none⟩))/\VX w.heap.size x (.pointer (some ⟨bb,0,none⟩)) w'/\St w' p ts r1 o b/\Ext p.pb w w':=by
 have hq:Tp.ex f 5 (o+1) 0 [] r≠.error (99,0):=by rw[hr.out];intro e;cases e
 have:=xx h (by omega) _ (fun w1 h1 _ _=>hO.out w1 r (o+1) b h1 (by omega) hq)
 rw[hr.out]at this
 refine this.mono ?_
 intro e w' hq
 obtain⟨v,h1,h2,h3⟩:=hq
 obtain⟨bb,rfl⟩:=h2.ptr
 exact⟨bb,h1,h2,h3⟩
theorem one_minus {p:Ps}{ts:List Tok}{f:Nat}(hO:OneC p ts f) {w:World}{r:List Tok}{o b:Nat}(h:St w p ts r o b) (ho:¬10<o) (hk:(hd r).kind≠2) (ht:tx r=Tp.mMinus) (hn:Tp.ex (f+1) 5 o 0 [] r≠.error (99,0)) :
  Calls Tryz.prog 210 #[.pointer (some ⟨p.pb,0,none⟩)] w fun e w'=>Post p ts o b w (VX w.heap.size) (Tp.ex (f+1) 5 o 0 [] r) e w':=by
 have hmf:=zm
 have c3:=h.c3
 have hpl:=zc c3
 have ho':¬(10:Int)<(o:Int):=by omega
 have ho2:o<=10:=by omega
 have hk':(((hd r).kind:Int) == 2)=false:=by simp;omega
 have HE:Hid (Tp.ex (f+1) 5 o 0 [] r=(do let (x,r1) <- Tp.ex f 5 (o+1) 0 [] (stp r);.ok ([⟨4,at' r,0,[],[],tx r,x,[],[]⟩],r1))):=ex5_un ho hk (Or.inl ht)
 have HO:Hid (OneC p ts f):=hO
 have HT:Hid (tx r=Tp.mMinus):=ht
 have HN:Hid (Tp.ex (f+1) 5 o 0 [] r≠.error (99,0)):=hn
 clear ho hk ht hO hn
 rcases hres:Tp.ex f 5 (o+1) 0 [] (stp r) with er|⟨x,r1⟩
 ·have HR:Hid (Tp.ex f 5 (o+1) 0 [] (stp r)=.error er):=hres
  have HER:Hid (er≠(99,0)):=by intro e;apply HN.out;rw[HE.out,HR.out,e];rfl
  clear hres
  go_enter Tryz.func210,Tryz.ntmps210
  go_wp2_with fail
  clear c3
  refine(zK h).mono ?_
  rintro e w1 ⟨rfl,hb1⟩
  have hsz1:=hb1.size
  have hba:∀ ob,Below w1.heap.size w1 (w1.alloc ob):=fun ob=>zb _ _
  have HX:Hid (∀ ob,Ext p.pb w (w1.alloc ob)):=fun ob=>(Ext.below hb1).trans (Ext.below (hba ob))
  have HST:Hid (∀ ob,St (w1.alloc ob) p ts r o b):=fun ob=>(h.below hb1).below (hba ob)
  clear hba
  go_wp2_with fail
  refine(zH (HST.out _) Tp.mMinus _ rfl).mono ?_
  rintro e w2 ⟨rfl,hst2,hx2⟩
  rw[if_pos HT.out]at hst2
  have hdec:=decide_eq_true HT.out
  have y1:w2.cell? ⟨w1.heap.size,1,none⟩=some (.int .i64 ((hd r).pos:Int)):=hx2.cell (by simp[go_sem]) (by simp;omega)
  have y2:w2.cell? ⟨w1.heap.size,2,none⟩=some (.string (bs (hd r).text)):=hx2.cell (by simp[go_sem]) (by simp;omega)
  have hext:Ext p.pb w w2:=((HX.out _).trans hx2)
  have hl1:=zc y1
  have HEXT:Hid (Ext p.pb w w2.drew):=hext.trans (Ext.below (zu _))
  have HS2:Hid (St w2.drew p ts (stp r) o b):=hst2.below (zu _)
  clear hext
  go_wp2_with fail
  go_region_dies
  all_goals (refine(ji HO HS2.out ho2 HR HER).mono ?_;intro e w4 hq;obtain⟨ab,h1,h0,h2,h3⟩:=hq.1.out;subst h0;refine⟨rfl,?_⟩;rw[HE.out,HR.out];exact zt HEXT.out hq.1 hq.2)
 ·have HR:Hid (Tp.ex f 5 (o+1) 0 [] (stp r)=.ok (x,r1)):=hres
  clear hres
  go_enter Tryz.func210,Tryz.ntmps210
  go_wp2_with fail
  clear c3
  refine(zK h).mono ?_
  rintro e w1 ⟨rfl,hb1⟩
  have hsz1:=hb1.size
  have hba:∀ ob,Below w1.heap.size w1 (w1.alloc ob):=fun ob=>zb _ _
  have HX:Hid (∀ ob,Ext p.pb w (w1.alloc ob)):=fun ob=>(Ext.below hb1).trans (Ext.below (hba ob))
  have HST:Hid (∀ ob,St (w1.alloc ob) p ts r o b):=fun ob=>(h.below hb1).below (hba ob)
  clear hba
  go_wp2_with fail
  refine(zH (HST.out _) Tp.mMinus _ rfl).mono ?_
  rintro e w2 ⟨rfl,hst2,hx2⟩
  rw[if_pos HT.out]at hst2
  have hdec:=decide_eq_true HT.out
  have y1:w2.cell? ⟨w1.heap.size,1,none⟩=some (.int .i64 ((hd r).pos:Int)):=hx2.cell (by simp[go_sem]) (by simp;omega)
  have y2:w2.cell? ⟨w1.heap.size,2,none⟩=some (.string (bs (hd r).text)):=hx2.cell (by simp[go_sem]) (by simp;omega)
  have hext:Ext p.pb w w2:=((HX.out _).trans hx2)
  have hl1:=zc y1
  have HEXT:Hid (Ext p.pb w w2.drew):=hext.trans (Ext.below (zu _))
  have HS2:Hid (St w2.drew p ts (stp r) o b):=hst2.below (zu _)
  clear hext
  go_wp2_with fail
  go_region_held3 (fun w'=>w'.cell? ⟨w1.heap.size,1,none⟩=some (.int .i64 ((hd r).pos:Int))/\w'.cell? ⟨w1.heap.size,2,none⟩=some (.string (bs (hd r).text))) (first|(exact⟨y1,y2⟩)|(exact⟨z1,z2⟩)|(exact⟨zV z1 _,zV z2 _⟩)) ((go_at_call 201;refine(jh HO HS2.out ho2 HR).mono ?_;rintro e w4 ⟨bb,rfl,hv,hst4,hx4⟩;have z1:w4.cell? ⟨w1.heap.size,1,none⟩=some (.int .i64 ((hd r).pos:Int)):=hx4.cell (by simpa using y1) (by simp;omega);have z2:w4.cell? ⟨w1.heap.size,2,none⟩=some (.string (bs (hd r).text)):=hx4.cell (by simpa using y2) (by simp;omega)))
  all_goals
   have hsz4:=hx4.size
   have hszE:=HEXT.out.size
   simp at hsz4 hszE
   go_wp2_with fail
   go_ret
   rw[HE.out,HR.out]
   have hal:Below w4.heap.size w4 (w4.alloc (.cells (xcells 4 (hd r).pos 0 ⟨#[]⟩ ⟨#[]⟩ (bs (hd r).text) (.pointer (some ⟨bb,0,none⟩)) (.pointer none) (.slice none 0 0)) 90)):=zb _ _
   exact⟨_,rfl,VX.node (by omega) (zk w4 _) (Or.inr ((VX.ext (b:=p.pb) (Ext.below hal) (by simp;omega) hv).base (by simp;omega))) (Or.inl ⟨rfl,rfl⟩) (Or.inl ⟨rfl,rfl⟩),hst4.below hal,(HEXT.out.trans hx4).trans (Ext.below hal)⟩
theorem one_not {p:Ps}{ts:List Tok}{f:Nat}(hO:OneC p ts f) {w:World}{r:List Tok}{o b:Nat}(h:St w p ts r o b) (ho:¬10<o) (hk:(hd r).kind≠2) (ht:tx r=Tp.wNot) (hn:Tp.ex (f+1) 5 o 0 [] r≠.error (99,0)) :
  Calls Tryz.prog 210 #[.pointer (some ⟨p.pb,0,none⟩)] w fun e w'=>Post p ts o b w (VX w.heap.size) (Tp.ex (f+1) 5 o 0 [] r) e w':=by
 have hmf:=zm
 have c3:=h.c3
 have hpl:=zc c3
 have ho':¬(10:Int)<(o:Int):=by omega
 have ho2:o<=10:=by omega
 have hk':(((hd r).kind:Int) == 2)=false:=by simp;omega
 have HE:Hid (Tp.ex (f+1) 5 o 0 [] r=(do let (x,r1) <- Tp.ex f 5 (o+1) 0 [] (stp r);.ok ([⟨4,at' r,0,[],[],tx r,x,[],[]⟩],r1))):=ex5_un ho hk (Or.inr ht)
 have HO:Hid (OneC p ts f):=hO
 have HT:Hid (tx r=Tp.wNot):=ht
 have HN:Hid (Tp.ex (f+1) 5 o 0 [] r≠.error (99,0)):=hn
 clear ho hk ht hO hn
 rcases hres:Tp.ex f 5 (o+1) 0 [] (stp r) with er|⟨x,r1⟩
 ·have HR:Hid (Tp.ex f 5 (o+1) 0 [] (stp r)=.error er):=hres
  have HER:Hid (er≠(99,0)):=by intro e;apply HN.out;rw[HE.out,HR.out,e];rfl
  clear hres
  go_enter Tryz.func210,Tryz.ntmps210
  go_wp2_with fail
  clear c3
  refine(zK h).mono ?_
  rintro e w1 ⟨rfl,hb1⟩
  have hsz1:=hb1.size
  have hba:∀ ob,Below w1.heap.size w1 (w1.alloc ob):=fun ob=>zb _ _
  have HX:Hid (∀ ob,Ext p.pb w (w1.alloc ob)):=fun ob=>(Ext.below hb1).trans (Ext.below (hba ob))
  have HST:Hid (∀ ob,St (w1.alloc ob) p ts r o b):=fun ob=>(h.below hb1).below (hba ob)
  clear hba
  go_wp2_with fail
  refine(zH (HST.out _) Tp.mMinus _ rfl).mono ?_
  rintro e w2 ⟨rfl,hst2,hx2⟩
  rw[if_neg (by rw[HT.out];decide)]at hst2
  have hdec:decide (tx r=Tp.mMinus)=false:=by rw[HT.out];decide
  have hcx:=hx2.cell (show (w1.alloc (.cells #[.int .i64 ((hd r).kind:Int),.int .i64 ((hd r).pos:Int),.string (bs (hd r).text)] 111)).cell? ⟨w1.heap.size,0,none⟩=some (.int .i64 ((hd r).kind:Int)) by simp[go_sem]) (by simp;omega)
  go_wp2_with fail
  clear hdec hcx
  refine(zH hst2 Tp.wNot _ rfl).mono ?_
  rintro e w3 ⟨rfl,hst3,hx3⟩
  rw[if_pos HT.out]at hst3
  have hdec:=decide_eq_true HT.out
  have y1:w3.cell? ⟨w1.heap.size,1,none⟩=some (.int .i64 ((hd r).pos:Int)):=hx3.cell (hx2.cell (by simp[go_sem]) (by simp;omega)) (by simp;omega)
  have y2:w3.cell? ⟨w1.heap.size,2,none⟩=some (.string (bs (hd r).text)):=hx3.cell (hx2.cell (by simp[go_sem]) (by simp;omega)) (by simp;omega)
  have hext:Ext p.pb w w3:=(((HX.out _).trans hx2).trans hx3)
  have hl1:=zc y1
  have HEXT:Hid (Ext p.pb w w3.drew):=hext.trans (Ext.below (zu _))
  have HS2:Hid (St w3.drew p ts (stp r) o b):=hst3.below (zu _)
  clear hext
  go_wp2_with fail
  go_region_dies
  all_goals (refine(ji HO HS2.out ho2 HR HER).mono ?_;intro e w4 hq;obtain⟨ab,h1,h0,h2,h3⟩:=hq.1.out;subst h0;refine⟨rfl,?_⟩;rw[HE.out,HR.out];exact zt HEXT.out hq.1 hq.2)
 ·have HR:Hid (Tp.ex f 5 (o+1) 0 [] (stp r)=.ok (x,r1)):=hres
  clear hres
  go_enter Tryz.func210,Tryz.ntmps210
  go_wp2_with fail
  clear c3
  refine(zK h).mono ?_
  rintro e w1 ⟨rfl,hb1⟩
  have hsz1:=hb1.size
  have hba:∀ ob,Below w1.heap.size w1 (w1.alloc ob):=fun ob=>zb _ _
  have HX:Hid (∀ ob,Ext p.pb w (w1.alloc ob)):=fun ob=>(Ext.below hb1).trans (Ext.below (hba ob))
  have HST:Hid (∀ ob,St (w1.alloc ob) p ts r o b):=fun ob=>(h.below hb1).below (hba ob)
  clear hba
  go_wp2_with fail
  refine(zH (HST.out _) Tp.mMinus _ rfl).mono ?_
  rintro e w2 ⟨rfl,hst2,hx2⟩
  rw[if_neg (by rw[HT.out];decide)]at hst2
  have hdec:decide (tx r=Tp.mMinus)=false:=by rw[HT.out];decide
  have hcx:=hx2.cell (show (w1.alloc (.cells #[.int .i64 ((hd r).kind:Int),.int .i64 ((hd r).pos:Int),.string (bs (hd r).text)] 111)).cell? ⟨w1.heap.size,0,none⟩=some (.int .i64 ((hd r).kind:Int)) by simp[go_sem]) (by simp;omega)
  go_wp2_with fail
  clear hdec hcx
  refine(zH hst2 Tp.wNot _ rfl).mono ?_
  rintro e w3 ⟨rfl,hst3,hx3⟩
  rw[if_pos HT.out]at hst3
  have hdec:=decide_eq_true HT.out
  have y1:w3.cell? ⟨w1.heap.size,1,none⟩=some (.int .i64 ((hd r).pos:Int)):=hx3.cell (hx2.cell (by simp[go_sem]) (by simp;omega)) (by simp;omega)
  have y2:w3.cell? ⟨w1.heap.size,2,none⟩=some (.string (bs (hd r).text)):=hx3.cell (hx2.cell (by simp[go_sem]) (by simp;omega)) (by simp;omega)
  have hext:Ext p.pb w w3:=(((HX.out _).trans hx2).trans hx3)
  have hl1:=zc y1
  have HEXT:Hid (Ext p.pb w w3.drew):=hext.trans (Ext.below (zu _))
  have HS2:Hid (St w3.drew p ts (stp r) o b):=hst3.below (zu _)
  clear hext
  go_wp2_with fail
  go_region_held3 (fun w'=>w'.cell? ⟨w1.heap.size,1,none⟩=some (.int .i64 ((hd r).pos:Int))/\w'.cell? ⟨w1.heap.size,2,none⟩=some (.string (bs (hd r).text))) (first|(exact⟨y1,y2⟩)|(exact⟨z1,z2⟩)|(exact⟨zV z1 _,zV z2 _⟩)) ((go_at_call 201;refine(jh HO HS2.out ho2 HR).mono ?_;rintro e w4 ⟨bb,rfl,hv,hst4,hx4⟩;have z1:w4.cell? ⟨w1.heap.size,1,none⟩=some (.int .i64 ((hd r).pos:Int)):=hx4.cell (by simpa using y1) (by simp;omega);have z2:w4.cell? ⟨w1.heap.size,2,none⟩=some (.string (bs (hd r).text)):=hx4.cell (by simpa using y2) (by simp;omega)))
  all_goals
   have hsz4:=hx4.size
   have hszE:=HEXT.out.size
   simp at hsz4 hszE
   go_wp2_with fail
   go_ret
   rw[HE.out,HR.out]
   have hal:Below w4.heap.size w4 (w4.alloc (.cells (xcells 4 (hd r).pos 0 ⟨#[]⟩ ⟨#[]⟩ (bs (hd r).text) (.pointer (some ⟨bb,0,none⟩)) (.pointer none) (.slice none 0 0)) 90)):=zb _ _
   exact⟨_,rfl,VX.node (by omega) (zk w4 _) (Or.inr ((VX.ext (b:=p.pb) (Ext.below hal) (by simp;omega) hv).base (by simp;omega))) (Or.inl ⟨rfl,rfl⟩) (Or.inl ⟨rfl,rfl⟩),hst4.below hal,(HEXT.out.trans hx4).trans (Ext.below hal)⟩
theorem kR {w:World}{p:Ps}{ts r:List Tok}{o b f:Nat}{res:Except Tp.Er (List X× List Tok)}(hL:Hid (LevelC p ts f)) (h:St w p ts r o b) (ho:o<=10) (hr:Hid (Tp.ex f 0 (o+1) 0 [] r=res)) (hne:Hid (res≠.error (99,0))) :
  Calls Tryz.prog 201 #[.pointer (some ⟨p.pb,0,none⟩),.func (.func 187) #[.pointer (some ⟨p.pb,0,none⟩)] #[]] w fun e w'=>Post p ts o b w (VX w.heap.size) res e w':=by
 have hq:Tp.ex f 0 (o+1) 0 [] r≠.error (99,0):=by rw[hr.out];exact hne.out
 have:=kX h (by omega) _ (fun w1 h1 _ _=>yG hL.out h1 (by omega) hq)
 rw[hr.out]at this
 exact this
theorem one_rest {p:Ps}{ts:List Tok}{f:Nat}(hL:LevelC p ts f) (hM:NamedC p ts f) {w:World}{r:List Tok}{o b:Nat}(h:St w p ts r o b) (ho:¬10<o) (hk:(hd r).kind≠2) (t1:tx r≠Tp.mMinus) (t2:tx r≠Tp.wNot) (hn:Tp.ex (f+1) 5 o 0 [] r≠.error (99,0)) :
  Calls Tryz.prog 210 #[.pointer (some ⟨p.pb,0,none⟩)] w fun e w'=>Post p ts o b w (VX w.heap.size) (Tp.ex (f+1) 5 o 0 [] r) e w':=by
 have hmf:=zm
 have c3:=h.c3
 have hpl:=zc c3
 have ho':¬(10:Int)<(o:Int):=by omega
 have ho2:o<=10:=by omega
 have hk':(((hd r).kind:Int) == 2)=false:=by simp;omega
 have HE1:Hid (tx r=Tp.mLp->Tp.ex (f+1) 5 o 0 [] r=(do let (x,r1) <- Tp.ex f 0 (o+1) 0 [] (stp r);let r2 <- Tp.want Tp.mRp r1;.ok (x,r2))):=fun ht=>ex5_paren ho hk ht
 have HE2:Hid (tx r≠Tp.mLp->Tp.ex (f+1) 5 o 0 [] r=Tp.ex f 6 o 0 [] r):=fun ht=>ex5_named ho hk t1 t2 ht
 have HL:Hid (LevelC p ts f):=hL
 have HM:Hid (NamedC p ts f):=hM
 have HN:Hid (Tp.ex (f+1) 5 o 0 [] r≠.error (99,0)):=hn
 have hd1:=decide_eq_false t1
 have hd2:=decide_eq_false t2
 have T1:Hid (¬tx r=Tp.mMinus):=t1
 have T2:Hid (¬tx r=Tp.wNot):=t2
 clear ho hk hL hM hn t1 t2
 go_enter Tryz.func210,Tryz.ntmps210
 go_wp2_with fail
 clear c3
 refine(zK h).mono ?_
 rintro e w1 ⟨rfl,hb1⟩
 have hsz1:=hb1.size
 have hba:∀ ob,Below w1.heap.size w1 (w1.alloc ob):=fun ob=>zb _ _
 have HX:Hid (∀ ob,Ext p.pb w (w1.alloc ob)):=fun ob=>(Ext.below hb1).trans (Ext.below (hba ob))
 have HST:Hid (∀ ob,St (w1.alloc ob) p ts r o b):=fun ob=>(h.below hb1).below (hba ob)
 clear hba
 go_wp2_with fail
 refine(zH (HST.out _) Tp.mMinus _ rfl).mono ?_
 rintro e w2 ⟨rfl,hst2,hx2⟩
 rw[if_neg T1.out]at hst2
 have hxa:=(HX.out _).trans hx2
 go_wp2_with fail
 refine(zH hst2 Tp.wNot _ rfl).mono ?_
 rintro e w3 ⟨rfl,hst3,hx3⟩
 rw[if_neg T2.out]at hst3
 have hxb:=hxa.trans hx3
 clear hst2 hx2 hxa hx3
 go_wp2_with fail
 refine(zH hst3 Tp.mLp _ rfl).mono ?_
 rintro e w4 ⟨rfl,hst4,hx4⟩
 have hxc:=hxb.trans hx4
 clear hst3 hx4 hxb
 by_cases hlp:tx r=Tp.mLp
 ·have hd3:=decide_eq_true hlp
  rw[if_pos hlp]at hst4
  have HE:Hid (Tp.ex (f+1) 5 o 0 [] r=(do let (x,r1) <- Tp.ex f 0 (o+1) 0 [] (stp r);let r2 <- Tp.want Tp.mRp r1;.ok (x,r2))):=HE1.out hlp
  clear hlp HE1 HE2
  rcases hres:Tp.ex f 0 (o+1) 0 [] (stp r) with er|⟨x,r1⟩
  ·have HR:Hid (Tp.ex f 0 (o+1) 0 [] (stp r)=.error er):=hres
   have HER:Hid ((.error er:Except Tp.Er (List X× List Tok))≠.error (99,0)):=by intro e;apply HN.out;rw[HE.out,HR.out,e];rfl
   clear hres
   go_wp2_with fail
   refine(kR HL hst4 ho2 HR HER).mono ?_
   intro e w5 hq
   obtain⟨ht,hx5⟩:=hq
   obtain⟨ab,h1,rfl,h2,h3⟩:=ht.out
   go_wp2_with fail
   refine⟨rfl,?_⟩
   rw[HE.out,HR.out]
   exact zt hxc ht hx5
  ·have HR:Hid (Tp.ex f 0 (o+1) 0 [] (stp r)=.ok (x,r1)):=hres
   have HER:Hid ((.ok (x,r1):Except Tp.Er (List X× List Tok))≠.error (99,0)):=by intro e;cases e
   clear hres
   go_wp2_with fail
   refine(kR HL hst4 ho2 HR HER).mono ?_
   intro e w5 hq
   obtain⟨v,rfl,hv,hst5,hx5⟩:=hq
   obtain⟨bb,rfl⟩:=hv.ptr
   have hsz5:=hxc.size
   have hxd:=hxc.trans hx5
   clear hst4 hx5 hxc
   go_wp2_with fail
   by_cases hrp:tx r1=Tp.mRp
   ·refine(zD hst5 Tp.mRp _ rfl hrp).mono ?_
    rintro e w6 ⟨rfl,hst6,hx6⟩
    have HRB:Hid (tx r1=Tp.mRp):=hrp
    clear hrp hst5
    go_wp2_with fail
    go_ret
    rw[HE.out,HR.out]
    simp only [bind,Except.bind,Tp.want,if_pos HRB.out]
    exact⟨_,rfl,(VX.ext hx6 (by omega) hv).base hsz5,hst6,hxd.trans hx6⟩
   ·refine(zO hst5 Tp.mRp _ rfl hrp).mono ?_
    rintro e w6 ⟨ht,hx6⟩
    have HRB:Hid (¬tx r1=Tp.mRp):=hrp
    clear hrp
    obtain⟨ab,h1,rfl,h2,h3⟩:=ht.out
    go_wp2_with fail
    refine⟨rfl,?_⟩
    rw[HE.out,HR.out]
    simp only [bind,Except.bind,Tp.want,if_neg HRB.out]
    exact zt hxd ht hx6
 ·have hd3:=decide_eq_false hlp
  rw[if_neg hlp]at hst4
  have HE:Hid (Tp.ex (f+1) 5 o 0 [] r=Tp.ex f 6 o 0 [] r):=HE2.out hlp
  clear hlp HE1 HE2
  have hcall:=HM.out w4 r o b hst4 ho2 (by rw[<-HE.out];exact HN.out)
  rw[<-HE.out]at hcall
  generalize hres:Tp.ex (f+1) 5 o 0 [] r=res at hcall
  have HC:Hid (Calls Tryz.prog 188 #[.pointer (some ⟨p.pb,0,none⟩)] w4 fun e w'=>Post p ts o b w4 (VX w4.heap.size) res e w'):=hcall
  have HR:Hid (Tp.ex (f+1) 5 o 0 [] r=res):=hres
  clear hcall hres
  go_wp2_with fail
  refine HC.out.mono ?_
  intro e w5 hq
  rcases res with er|⟨x,r1⟩
  ·obtain⟨ht,hx5⟩:=hq
   obtain⟨ab,h1,rfl,h2,h3⟩:=ht.out
   go_wp2_with fail
   refine⟨rfl,?_⟩
   rw[HR.out]
   exact zt hxc ht hx5
  ·obtain⟨v,rfl,hv,hst5,hx5⟩:=hq
   have hsz5:=hxc.size
   go_wp2_with fail
   go_ret
   rw[HR.out]
   exact⟨_,rfl,hv.base hsz5,hst5,hxc.trans hx5⟩
theorem one_post {p:Ps}{ts:List Tok}{f:Nat}(hL:LevelC p ts f) (hO:OneC p ts f) (hM:NamedC p ts f):OneC p ts (f+1):=by
 intro w r o b h ho hn
 by_cases hd:10<o
 ·rw[show Tp.ex (f+1) 5 o 0 [] r=.error (4,at' r) by rw[Tp.ex];simp[hd]]
  exact one_deep h hd
 ·by_cases hk:(Tp.hd r).kind=2
  ·exact one_number h hd hk f
  ·by_cases h1:tx r=Tp.mMinus
   ·exact one_minus hO h hd hk h1 hn
   ·by_cases h2:tx r=Tp.wNot
    ·exact one_not hO h hd hk h2 hn
    ·exact one_rest hL hM h hd hk h1 h2 hn
end Go.Proofs.YtmocelfkmdpogaaGreatDoor
namespace Go.Proofs.YtmocelfkmdpogaaGreatDoor
open Go.RowKit
open Tp (Tok hd tx at' stp X S)
def OwnS (w:World) (D:Nat->Prop) (v:Value) (n:Nat) (cs:List Value):Prop :=
 v=.slice none 0 0/\n=0\/∃ g cap cur,v=.slice (some ⟨g,0,none⟩) n cap/\D g/\w.heap[g]?=some (.cells cur 139 (0,0))/\n<=cap/\cap<=maxLen/\cur.size=cap * 7/\cur.toList.take (n * 7)=cs
def RepS (w:World) (D:Nat->Prop):List S->List Value->Prop
 | [],cs=>cs=[]
 | ⟨code,pos,name,index,value,thn,els⟩ :: ss,cs=>∃(tv ev:Value) (ls vs tcs ecs cs':List Value),
   cs=[.int .i64 (code:Int),.int .i64 (pos:Int),.string (bs name),ls.headD (.pointer none),vs.headD (.pointer none),tv,ev]++cs' /\
   RepL w D index ls/\ls.length<=1/\RepL w D value vs/\vs.length<=1/\RepS w D thn tcs/\OwnS w D tv thn.length tcs/\RepS w D els ecs/\OwnS w D ev els.length ecs/\RepS w D ss cs'
theorem OwnS.mono {w w':World}{D D':Nat->Prop}(hw:∀ b,D b->b<w.heap.size->w'.heap[b]?=w.heap[b]?/\D' b) {v:Value}{n:Nat}{cs:List Value}(h:OwnS w D v n cs):OwnS w' D' v n cs:=by
 rcases h with h|⟨g,cap,cur,h1,h2,h3,h4⟩
 ·exact Or.inl h
 ·obtain⟨e1,e2⟩:=hw g h2 (zi h3)
  exact Or.inr ⟨g,cap,cur,h1,e2,e1.trans h3,h4⟩
theorem RepS.mono {w w':World}{D D':Nat->Prop}(hw:∀ b,D b->b<w.heap.size->w'.heap[b]?=w.heap[b]?/\D' b):∀(n:Nat) (l:List S) (cs:List Value),SizeOf.sizeOf l<=n->RepS w D l cs->RepS w' D' l cs:=by
 intro n
 induction n with
 | zero=>intro l vs hl;cases l <;> simp at hl <;> omega
 | succ n ih =>
  intro l vs hl h
  cases l with
  | nil=>rw[RepS]at h ⊢;exact h
  | cons x xs =>
   obtain⟨code,pos,name,index,value,thn,els⟩:=x
   rw[RepS]at h ⊢
   simp at hl
   obtain⟨tv,ev,ls,vs,tcs,ecs,cs',h1,h2,h3,h4,h5,h6,h7,h8,h9,h10⟩:=h
   exact⟨tv,ev,ls,vs,tcs,ecs,cs',h1,RepL.mono hw _ _ _ zn h2,h3,RepL.mono hw _ _ _ zn h4,h5,ih _ _ (by omega) h6,h7.mono hw,ih _ _ (by omega) h8,h9.mono hw,ih _ _ (by omega) h10⟩
theorem RepS.mono' {w w':World}{D D':Nat->Prop}(hw:∀ b,D b->b<w.heap.size->w'.heap[b]?=w.heap[b]?/\D' b) {l:List S}{cs:List Value}(h:RepS w D l cs):RepS w' D' l cs:=RepS.mono hw _ l cs zn h
theorem RepS.len {w:World}{D:Nat->Prop}:∀(l:List S) (cs:List Value),RepS w D l cs->cs.length=l.length * 7:=by
 intro l
 induction l with
 | nil=>intro vs h;rw[RepS]at h;simp[h]
 | cons x xs ih =>
  intro cs h
  obtain⟨code,pos,name,index,value,thn,els⟩:=x
  rw[RepS]at h
  obtain⟨tv,ev,ls,vs,tcs,ecs,cs',h1,h2,h3,h4,h5,h6,h7,h8,h9,h10⟩:=h
  subst h1
  simp[ih _ h10];omega
theorem RepS.app {w:World}{D:Nat->Prop}:∀(l m:List S) (cs us:List Value),RepS w D l cs->RepS w D m us->RepS w D (l++m) (cs++us):=by
 intro l
 induction l with
 | nil=>intro m cs us h k;rw[RepS]at h;subst h;exact k
 | cons x xs ih =>
  intro m cs us h k
  obtain⟨code,pos,name,index,value,thn,els⟩:=x
  rw[RepS]at h
  obtain⟨tv,ev,ls,vs,tcs,ecs,cs',h1,h2,h3,h4,h5,h6,h7,h8,h9,h10⟩:=h
  subst h1
  rw[List.cons_append,RepS]
  exact⟨tv,ev,ls,vs,tcs,ecs,cs'++us,by simp,h2,h3,h4,h5,h6,h7,h8,h9,ih m cs' us h10 k⟩
def scells (code pos:Int) (name:ByteArray) (iv vv tv ev:Value):Array Value:=#[.int .i64 code,.int .i64 pos,.string name,iv,vv,tv,ev]
def VS (B:Nat) (l:List S) (v:Value) (w:World):Prop:=∃(code pos:Nat) (name:List UInt8) (ia va ta ea:Option Addr) (tn tc en ec:Nat),
 v=.agg (scells code pos (bs name) (.pointer ia) (.pointer va) (.slice ta tn tc) (.slice ea en ec))/\RepS w (fun b=>B<=b) l (scells code pos (bs name) (.pointer ia) (.pointer va) (.slice ta tn tc) (.slice ea en ec)).toList
def VL (B:Nat) (l:List S) (v:Value) (w:World):Prop:=∃ cs,RepS w (fun b=>B<=b/\v.ownBlock≠some b) l cs/\w.ownsRow B 139 7 v l.length cs
theorem VS.ext {w w':World}{B b:Nat}(k:Ext b w w') (hb:b<B) {l:List S}{v:Value}(h:VS B l v w):VS B l v w':=by
 obtain⟨c,p,n,ia,va,ta,ea,tn,tc,en,ec,h1,h2⟩:=h
 exact⟨c,p,n,ia,va,ta,ea,tn,tc,en,ec,h1,h2.mono' (fun i hi hl=>⟨k.block i hl (by omega),hi⟩)⟩
theorem VS.base {w:World}{B B':Nat}{l:List S}{v:Value}(h:VS B l v w) (hB:B'<=B):VS B' l v w:=by
 obtain⟨c,p,n,ia,va,ta,ea,tn,tc,en,ec,h1,h2⟩:=h
 exact⟨c,p,n,ia,va,ta,ea,tn,tc,en,ec,h1,h2.mono' (fun _ hi _=>⟨rfl,Nat.le_trans hB hi⟩)⟩
theorem VL.ext {w w':World}{B b:Nat}(k:Ext b w w') (hb:b<B) {l:List S}{v:Value}(h:VL B l v w):VL B l v w':=by
 obtain⟨cs,h1,h2⟩:=h
 exact⟨cs,h1.mono' (fun i hi hl=>⟨k.block i hl (by omega),hi⟩),zA h2 k hb⟩
theorem VL.base {w:World}{B B':Nat}{l:List S}{v:Value}(h:VL B l v w) (hB:B'<=B):VL B' l v w:=by
 obtain⟨cs,h1,h2⟩:=h
 refine⟨cs,h1.mono' (fun _ hi _=>⟨rfl,Nat.le_trans hB hi.1,hi.2⟩),h2.1,?_⟩
 rcases h2.2 with q|⟨g,cap,cur,q1,q2,q3⟩
 ·exact Or.inl q
 ·exact Or.inr ⟨g,cap,cur,q1,Nat.le_trans hB q2,q3⟩
theorem VL.shape {w:World}{B:Nat}{l:List S}{v:Value}(h:VL B l v w):∃ ao cap,v=.slice ao l.length cap:=by
 obtain⟨cs,_,h2⟩:=h
 exact zl h2
theorem VL.own {w:World}{B:Nat}{l:List S}{v:Value}(h:VL B l v w):∃ cs,RepS w (fun b=>B<=b) l cs/\OwnS w (fun b=>B<=b) v l.length cs:=by
 obtain⟨cs,h1,h2⟩:=h
 refine⟨cs,h1.mono' (fun _ hi _=>⟨rfl,hi.1⟩),?_⟩
 rcases h2.2 with q|⟨g,cap,cur,q1,q2,q3⟩
 ·exact Or.inl q
 ·exact Or.inr ⟨g,cap,cur,q1,q2,q3⟩
theorem VS.node {w:World}{B code pos:Nat}{name:List UInt8}{index value:List X}{thn els:List S}{iv vv tv ev:Value}
  (hi:index=[]/\iv=.pointer none\/VX B index iv w) (hv:value=[]/\vv=.pointer none\/VX B value vv w)
  (ht:thn=[]/\tv=.slice none 0 0\/VL B thn tv w) (he:els=[]/\ev=.slice none 0 0\/VL B els ev w) :
  VS B [⟨code,pos,name,index,value,thn,els⟩] (.agg (scells code pos (bs name) iv vv tv ev)) w:=by
 have side:∀(l:List X) (v:Value),(l=[]/\v=.pointer none\/VX B l v w)->∃ ls:List Value,v=ls.headD (.pointer none)/\RepL w (fun b=>B<=b) l ls/\ls.length<=1:=by
  intro l v h
  rcases h with⟨rfl,rfl⟩|h
  ·exact⟨[],rfl,by rw[RepL],by simp⟩
  ·exact⟨[v],rfl,h,by simp⟩
 have down:∀(l:List S) (v:Value),(l=[]/\v=.slice none 0 0\/VL B l v w)->∃ cs,RepS w (fun b=>B<=b) l cs/\OwnS w (fun b=>B<=b) v l.length cs:=by
  intro l v h
  rcases h with⟨rfl,rfl⟩|h
  ·exact⟨[],by rw[RepS],Or.inl ⟨rfl,rfl⟩⟩
  ·exact h.own
 have ptr:∀(l:List X) (v:Value),(l=[]/\v=.pointer none\/VX B l v w)->∃ ia,v=.pointer ia:=by
  intro l v h
  rcases h with⟨rfl,rfl⟩|h
  ·exact⟨_,rfl⟩
  ·obtain⟨bb,rfl⟩:=h.ptr;exact⟨_,rfl⟩
 have slc:∀(l:List S) (v:Value),(l=[]/\v=.slice none 0 0\/VL B l v w)->∃ ta tn tc,v=.slice ta tn tc:=by
  intro l v h
  rcases h with⟨rfl,rfl⟩|h
  ·exact⟨_,_,_,rfl⟩
  ·obtain⟨ao,cap,rfl⟩:=h.shape;exact⟨_,_,_,rfl⟩
 obtain⟨ia,rfl⟩:=ptr index iv hi
 obtain⟨va,rfl⟩:=ptr value vv hv
 obtain⟨ta,tn,tc,rfl⟩:=slc thn tv ht
 obtain⟨ea,en,ec,rfl⟩:=slc els ev he
 obtain⟨ls,l0,l1,l2⟩:=side index _ hi
 obtain⟨vs,v0,v1,v2⟩:=side value _ hv
 obtain⟨tcs,t1,t2⟩:=down thn _ ht
 obtain⟨ecs,e1,e2⟩:=down els _ he
 refine⟨code,pos,name,ia,va,ta,ea,tn,tc,en,ec,rfl,?_⟩
 rw[RepS]
 exact⟨_,_,ls,vs,tcs,ecs,[],by rw[<-l0,<-v0];simp[scells],l1,l2,v1,v2,t1,t2,e1,e2,by rw[RepS]⟩
theorem St.setBlocks {w:World}{p:Ps}{ts r:List Tok}{o b:Nat}(h:St w p ts r o b) (b':Nat) (z:Int) (hz:z=b'):St (w.setCell ⟨p.pb,4,none⟩ (.int .i64 z)) p ts r o b':=by
 subst hz
 have e:∀ j v,j≠4->w.cell? ⟨p.pb,j,none⟩=some v->(w.setCell ⟨p.pb,4,none⟩ (.int .i64 (b':Int))).cell? ⟨p.pb,j,none⟩=some v:=fun j v hj hv=>by
  rw[World.cell?_setCell_other w ⟨p.pb,4,none⟩ ⟨p.pb,j,none⟩ _ (by simp <;> omega)];exact hv
 exact⟨e 0 _ (by omega) h.c0,e 1 _ (by omega) h.c1,e 2 _ (by omega) h.c2,e 3 _ (by omega) h.c3,World.cell?_setCell_same _ _ _ h.c4,fun j=>by simpa using h.fz j,
  (Below.heap_setCell _ _ _ _ (by have:=h.apart.2;simp;omega)).trans h.kept,fun i t ht=>(h.toks i t ht).ext (b:=p.pb) ((Ext.refl _ _).set 4 _) (by have:=h.apart.1;omega),h.suf,h.ne,h.len,h.last,h.apart,h.dig,h.tl,⟨by simpa using h.lv.1,fun i hi=>by rw[World.cell?_setCell_other w ⟨p.pb,4,none⟩ ⟨2,i,none⟩ _ (by have:=h.glt;simp <;> omega)];exact h.lv.2 i hi⟩,h.glt⟩
theorem yq (w:World) (b:Nat) (v0 v1 v2 v3 v4 v5 v6:Value):Ext b w (((((((w.setCell ⟨b,0,none⟩ v0).setCell ⟨b,1,none⟩ v1).setCell ⟨b,2,none⟩ v2).setCell ⟨b,3,none⟩ v3).setCell ⟨b,4,none⟩ v4).setCell ⟨b,5,none⟩ v5).setCell ⟨b,6,none⟩ v6):=((((((((Ext.refl b w).set 0 v0).set 1 v1).set 2 v2).set 3 v3).set 4 v4).set 5 v5).set 6 v6)
theorem zN (w:World) (b:Nat) (v0 v1 v2 v3 v4 v5 v6:Value):Below b w (((((((w.setCell ⟨b,0,none⟩ v0).setCell ⟨b,1,none⟩ v1).setCell ⟨b,2,none⟩ v2).setCell ⟨b,3,none⟩ v3).setCell ⟨b,4,none⟩ v4).setCell ⟨b,5,none⟩ v5).setCell ⟨b,6,none⟩ v6):=(zq (zq (zq (zq (zq (zq (zq (Below.refl b w) zn 0 v0) zn 1 v1) zn 2 v2) zn 3 v3) zn 4 v4) zn 5 v5) zn 6 v6)
theorem jB {p:Ps}{ts:List Tok}{f:Nat}(hL:LevelC p ts f) {w:World}{r:List Tok}{b:Nat}(h:St w p ts r 0 b) (code:Nat) (hn:Tp.ex f 0 0 0 [] (stp r)≠.error (99,0)) :
  Calls Tryz.prog 145 #[.pointer (some ⟨p.pb,0,none⟩),.int .i64 (code:Int)] w fun e w'=>Post p ts 0 b w (VS w.heap.size)
   (do let (x,r1) <- Tp.ex f 0 0 0 [] (stp r);let r2 <- Tp.want Tp.mSemi r1;.ok ([⟨code,at' r,[],[],x,[],[]⟩],r2)) e w':=by
 have hpl:=zc h.c0
 have hcall:=fun W (hW:St W p ts (stp r) 0 b)=>yG hL hW (by omega) hn
 generalize Tp.ex f 0 0 0 [] (stp r)=res at hcall
 have HC:Hid (∀ W,St W p ts (stp r) 0 b->Calls Tryz.prog 187 #[.pointer (some ⟨p.pb,0,none⟩)] W fun e w'=>Post p ts 0 b W (VX W.heap.size) res e w'):=hcall
 clear hcall hn hL
 go_enter Tryz.func145,Tryz.ntmps145
 go_wp2_with fail
 have hba:∀(W:World) ob,Below W.heap.size W (W.alloc ob):=fun W ob=>zb _ _
 refine(yW (h.below (hba _ _))).mono ?_
 rintro e w1 ⟨rfl,hst1,hx1⟩
 have hrb1:w1.heap[w.heap.size]?=some (.cells (scells 0 0 ⟨#[]⟩ (.pointer none) (.pointer none) (.slice none 0 0) (.slice none 0 0)) 139 (0,0)):=(hx1.block _ (by simp) (by omega)).trans (zk _ _)
 have hext1:Ext p.pb w w1:=(Ext.below (hba _ _)).trans hx1
 have hsz1:=zi hrb1
 have HB:Hid (∀(W:World) ob,Below W.heap.size W (W.alloc ob)):=hba
 clear hx1 hba
 go_wp2_with fail
 refine(HC.out _ (hst1.below (HB.out _ _))).mono ?_
 intro e w2 hq
 have HX1:Hid (∀ ob,Ext p.pb w (w1.alloc ob)):=fun ob=>hext1.trans (Ext.below (HB.out _ _))
 clear hst1
 rcases res with er|⟨x,r1⟩
 ·obtain⟨ht,hx2⟩:=hq
  obtain⟨ab,h1,rfl,h2,h3⟩:=ht.out
  go_wp2_with fail
  exact⟨rfl,zt (HX1.out _) ht hx2⟩
 ·obtain⟨v,rfl,hv,hst2,hx2⟩:=hq
  obtain⟨bb,rfl⟩:=hv.ptr
  have hrb2:=(hx2.block w.heap.size (by simp;omega) (by omega)).trans ((Below.heap_alloc _ _ _ hsz1).trans hrb1)
  have hsb2:w2.heap[w1.heap.size]?=some (.cells (scells code (at' r) ⟨#[]⟩ (.pointer none) (.pointer none) (.slice none 0 0) (.slice none 0 0)) 139 (0,0)):=(hx2.block _ (by simp) (by omega)).trans (zk _ _)
  have hext2:=(HX1.out _).trans hx2
  obtain⟨sb,hsb⟩:∃ sb,sb=w1.heap.size:=⟨_,rfl⟩
  obtain⟨rb,hrb⟩:∃ rb,rb=w.heap.size:=⟨_,rfl⟩
  have hv2:VX (sb+1) x (.pointer (some ⟨bb,0,none⟩)) w2:=hv.base (by simp;omega)
  have hsw:w.heap.size<sb:=by omega
  rw[<-hsb]at hsb2 ⊢
  rw[<-hrb]at hrb2 ⊢
  have hrw:w.heap.size<=rb:=by omega
  have hrs:rb<sb:=by omega
  have hps:p.pb<rb:=by omega
  have HRB:Hid (rb=w.heap.size):=hrb
  clear hsb hrb hrb1 hext1 hsz1 hv hx2 HX1
  have k4:w2.cell? ⟨sb,4,none⟩=some (.pointer none):=za hsb2
  have z4:w2.frozen? ⟨sb,4,none⟩=false:=zg hsb2
  go_wp2_with fail
  clear k4 z4
  have hb3:Below sb w2 (w2.setCell ⟨sb,4,none⟩ (.pointer (some ⟨bb,0,none⟩))):=zq (Below.refl _ _) zn 4 _
  have hst3:=hst2.belowB hb3 (by omega)
  have hext3:=hext2.trans' (hb3.mono (by omega))
  have hsb3:=zw 4 (.pointer (some ⟨bb,0,none⟩)) hsb2
  have hrb3:=(hb3.block rb hrs).trans hrb2
  have hv3:VX (sb+1) x (.pointer (some ⟨bb,0,none⟩)) (w2.setCell ⟨sb,4,none⟩ (.pointer (some ⟨bb,0,none⟩))):=VX.ext ((Ext.refl sb w2).set 4 _) (by omega) hv2
  generalize w2.setCell ⟨sb,4,none⟩ (.pointer (some ⟨bb,0,none⟩))=w3 at hb3 hst3 hext3 hsb3 hrb3 hv3 ⊢
  clear hb3 hst2 hext2 hsb2 hrb2 hv2
  by_cases hse:tx r1=Tp.mSemi
  ·refine(zD hst3 Tp.mSemi _ rfl hse).mono ?_
   rintro e w4 ⟨rfl,hst4,hx4⟩
   have HSE:Hid (tx r1=Tp.mSemi):=hse
   clear hse hst3
   have hsb4:w4.heap[sb]?=some (.cells (scells code (at' r) ⟨#[]⟩ (.pointer none) (.pointer (some ⟨bb,0,none⟩)) (.slice none 0 0) (.slice none 0 0)) 139 (0,0)):=(hx4.block sb (zi hsb3) (by omega)).trans hsb3
   have hrb4:w4.heap[rb]?=some (.cells (scells 0 0 ⟨#[]⟩ (.pointer none) (.pointer none) (.slice none 0 0) (.slice none 0 0)) 139 (0,0)):=(hx4.block rb (zi hrb3) (by omega)).trans hrb3
   have ks:∀ i,w4.cell? ⟨sb,i,none⟩=(scells code (at' r) ⟨#[]⟩ (.pointer none) (.pointer (some ⟨bb,0,none⟩)) (.slice none 0 0) (.slice none 0 0))[i]?:=fun i=>za hsb4
   have kr:∀ i,w4.cell? ⟨rb,i,none⟩=(scells 0 0 ⟨#[]⟩ (.pointer none) (.pointer none) (.slice none 0 0) (.slice none 0 0))[i]?:=fun i=>za hrb4
   have zr:∀ i,w4.frozen? ⟨rb,i,none⟩=false:=fun i=>zg hrb4
   simp only [scells]at ks kr
   go_wp2_with fail
   refine bodyPost_ret (v:=.agg (scells code (at' r) (bs []) (.pointer none) (.pointer (some ⟨bb,0,none⟩)) (.slice none 0 0) (.slice none 0 0))) (by simp[results,Tryz.results145,go_sem,kr,scells,bs]) rfl ?_
   have hw:Tp.want Tp.mSemi r1=.ok (stp r1):=by unfold Tp.want;rw[if_pos HSE.out]
   simp only [bind,Except.bind,hw]
   refine⟨_,rfl,VS.node (Or.inl ⟨rfl,rfl⟩) (Or.inr ?_) (Or.inl ⟨rfl,rfl⟩) (Or.inl ⟨rfl,rfl⟩),?_,?_⟩
   ·exact VX.base (VX.ext (b:=rb) (yq w4 rb _ _ _ _ _ _ _) (by omega) (VX.ext hx4 (by omega) hv3)) (by omega)
   ·exact hst4.belowB (zN w4 rb _ _ _ _ _ _ _) (by omega)
   ·exact(hext3.trans hx4).trans' ((zN w4 rb _ _ _ _ _ _ _).mono hrw)
  ·refine(zO hst3 Tp.mSemi _ rfl hse).mono ?_
   rintro e w4 ⟨ht,hx4⟩
   have HSE:Hid (¬tx r1=Tp.mSemi):=hse
   clear hse
   obtain⟨ab,h1,rfl,h2,h3⟩:=ht.out
   go_wp2_with fail
   refine⟨rfl,?_⟩
   have hw:Tp.want Tp.mSemi r1=.error (3,at' r1):=by unfold Tp.want;rw[if_neg HSE.out]
   simp only [bind,Except.bind,hw]
   exact zt hext3 ht hx4
theorem jn (w:World) (a b:Obj):((w.alloc a).alloc b).heap[w.heap.size+1]?=some b:=by
 have h:=zk (w.alloc a) b
 rw[show (w.alloc a).heap.size=w.heap.size+1 by simp]at h
 exact h
theorem jZ {p:Ps}{ts:List Tok}{w:World}{r:List Tok}{o b:Nat}(h:St w p ts r o b) (code pos:Nat) (name:ByteArray) (ia va ta ea:Option Addr) (tn tc en ec:Nat) :
  Calls Tryz.prog 146 #[.pointer (some ⟨p.pb,0,none⟩),.agg (scells code pos name (.pointer ia) (.pointer va) (.slice ta tn tc) (.slice ea en ec))] w fun e w' =>
   Post p ts o b w (fun (_:Unit) v _=>v=.agg (scells code pos name (.pointer ia) (.pointer va) (.slice ta tn tc) (.slice ea en ec))) (do let r2 <- Tp.want Tp.wEnd r;let r3 <- Tp.want Tp.mSemi r2;.ok ((),r3)) e w':=by
 have hpl:=zc h.c0
 simp only [scells]
 go_enter Tryz.func146,Tryz.ntmps146
 go_wp2_with fail
 have hba:∀ o1 o2,Below w.heap.size w ((w.alloc o1).alloc o2):=fun o1 o2=>(zb _ _).alloc (by simp) _
 by_cases he:tx r=Tp.wEnd
 ·refine(zD (h.below (hba _ _)) Tp.wEnd _ rfl he).mono ?_
  rintro e w1 ⟨rfl,hst1,hx1⟩
  have HE:Hid (Tp.want Tp.wEnd r=.ok (stp r)):=by unfold Hid Tp.want;rw[if_pos he]
  clear he
  have hsb1:w1.heap[w.heap.size]?=some (.cells (scells code pos name (.pointer ia) (.pointer va) (.slice ta tn tc) (.slice ea en ec)) 139 (0,0)):=(hx1.block _ (by simp;omega) (by omega)).trans ((Below.heap_alloc _ _ _ (by simp)).trans (zk _ _))
  have hrb1:w1.heap[w.heap.size+1]?=some (.cells (scells 0 0 ⟨#[]⟩ (.pointer none) (.pointer none) (.slice none 0 0) (.slice none 0 0)) 139 (0,0)):=(hx1.block _ (by simp) (by omega)).trans (jn _ _ _)
  have hext1:Ext p.pb w w1:=(Ext.below (hba _ _)).trans hx1
  clear hx1 hba
  go_wp2_with fail
  by_cases hse:tx (stp r)=Tp.mSemi
  ·refine(zD hst1 Tp.mSemi _ rfl hse).mono ?_
   rintro e w2 ⟨rfl,hst2,hx2⟩
   have HS:Hid (Tp.want Tp.mSemi (stp r)=.ok (stp (stp r))):=by unfold Hid Tp.want;rw[if_pos hse]
   clear hse hst1
   have hsb2:=(hx2.block _ (zi hsb1) (by omega)).trans hsb1
   have hrb2:=(hx2.block _ (zi hrb1) (by omega)).trans hrb1
   have hext2:=hext1.trans hx2
   clear hx2 hext1 hsb1 hrb1
   have ks:∀ i,w2.cell? ⟨w.heap.size,i,none⟩=(scells code pos name (.pointer ia) (.pointer va) (.slice ta tn tc) (.slice ea en ec))[i]?:=fun i=>za hsb2
   have kr:∀ i,w2.cell? ⟨w.heap.size+1,i,none⟩=(scells 0 0 ⟨#[]⟩ (.pointer none) (.pointer none) (.slice none 0 0) (.slice none 0 0))[i]?:=fun i=>za hrb2
   have zr:∀ i,w2.frozen? ⟨w.heap.size+1,i,none⟩=false:=fun i=>zg hrb2
   simp only [scells]at ks kr
   go_wp2_with fail
   refine bodyPost_ret (v:=.agg (scells code pos name (.pointer ia) (.pointer va) (.slice ta tn tc) (.slice ea en ec))) (by simp[results,Tryz.results146,go_sem,kr,scells]) rfl ?_
   simp only [bind,Except.bind,HE.out,HS.out]
   exact⟨_,rfl,rfl,hst2.belowB (zN w2 (w.heap.size+1) _ _ _ _ _ _ _) (by omega),hext2.trans' ((zN w2 (w.heap.size+1) _ _ _ _ _ _ _).mono (by omega))⟩
  ·refine(zO hst1 Tp.mSemi _ rfl hse).mono ?_
   rintro e w2 ⟨ht,hx2⟩
   have HS:Hid (Tp.want Tp.mSemi (stp r)=.error (3,at' (stp r))):=by unfold Hid Tp.want;rw[if_neg hse]
   clear hse
   obtain⟨ab,h1,rfl,h2,h3⟩:=ht.out
   go_wp2_with fail
   refine⟨rfl,?_⟩
   simp only [bind,Except.bind,HE.out,HS.out]
   exact zt hext1 ht hx2
 ·refine(zO (h.below (hba _ _)) Tp.wEnd _ rfl he).mono ?_
  rintro e w1 ⟨ht,hx1⟩
  have HE:Hid (Tp.want Tp.wEnd r=.error (3,at' r)):=by unfold Hid Tp.want;rw[if_neg he]
  have HX:Hid (∀ o1 o2,Ext p.pb w ((w.alloc o1).alloc o2)):=fun o1 o2=>Ext.below (hba o1 o2)
  clear he hba
  obtain⟨ab,h1,rfl,h2,h3⟩:=ht.out
  go_wp2_with fail
  refine⟨rfl,?_⟩
  simp only [bind,Except.bind,HE.out]
  exact zt (HX.out _ _) ht hx1
def StmtsC (p:Ps) (ts:List Tok) (f:Nat):Prop:=∀(w:World) (r:List Tok) (b:Nat),St w p ts r 0 b->b<=11->Tp.sx f 0 b r≠.error (99,0) ->
 Calls Tryz.prog 62 #[.pointer (some ⟨p.pb,0,none⟩)] w fun e w'=>Post p ts 0 b w (VL w.heap.size) (Tp.sx f 0 b r) e w'
def StmtC (p:Ps) (ts:List Tok) (f:Nat):Prop:=∀(w:World) (r:List Tok) (b:Nat),St w p ts r 0 b->b<=10->Tp.sx f 2 b r≠.error (99,0) ->
 Calls Tryz.prog 96 #[.pointer (some ⟨p.pb,0,none⟩)] w fun e w'=>Post p ts 0 b w (VS w.heap.size) (Tp.sx f 2 b r) e w'
def BranchC (p:Ps) (ts:List Tok) (f:Nat):Prop:=∀(w:World) (r:List Tok) (b:Nat),St w p ts r 0 b->b<=10->Tp.sx f 3 b r≠.error (99,0) ->
 Calls Tryz.prog 148 #[.pointer (some ⟨p.pb,0,none⟩)] w fun e w'=>Post p ts 0 b w (VS w.heap.size) (Tp.sx f 3 b r) e w'
def blockS (f code b:Nat) (m:List UInt8) (r:List Tok):Except Tp.Er (List S× List Tok):=do
 let (x,r1) <- Tp.ex f 0 0 0 [] (stp r)
 let r2 <- Tp.want m r1
 let (l,r3) <- Tp.sx f 0 (b+1) r2
 .ok ([⟨code,at' r,[],[],x,l,[]⟩],r3)
end Go.Proofs.YtmocelfkmdpogaaGreatDoor
