import Derived.Test.YtibncofnnlbmcaaGreatDoorKWb
import Derived.Deep.RegionHeld3
set_option maxRecDepth 100000
set_option maxHeartbeats 4000000
namespace Go.Proofs.YtibncofnnlbmcaaGreatDoor
open Go.RowKit
open Tp (Tok hd tx at' stp X)
theorem Tryz.infoPExpr:(Tryz.prog.info? 179).map (fun i=>(i.zero,i.size,i.bytes))=some (some (.pointer none),1,8):=by kernel_rfl
theorem LevelC.mono {p:Ps}{ts:List Tok}{f g:Nat}(h:LevelC p ts g) (hf:f<=g):LevelC p ts f:=by
 intro w r o b n h1 h2 h3 h4
 have e:=(Tp.ex_le hf n o 0 [] r).eq rfl h4
 have:=h w r o b n h1 h2 h3 (by rw[e];exact h4)
 rw[e]at this
 exact this
def argsT (f o:Nat) (r:List Tok):Except Tp.Er (List X× List Tok):=if tx r=Tp.mComma then Tp.ex f 7 o 0 [] (stp r) else .ok ([],r)
theorem xN {f o:Nat}{r:List Tok}{er:Tp.Er}(h:Tp.ex f 0 (o+1) 0 [] r=.error er):Tp.ex (f+1) 7 o 0 [] r=.error er:=by
 rw[Tp.ex];simp only [h];rfl
theorem ex7_ok {f o:Nat}{r r1:List Tok}{x:List X}(h:Tp.ex f 0 (o+1) 0 [] r=.ok (x,r1)):Tp.ex (f+1) 7 o 0 [] r=addAll x (argsT f o r1):=by
 rw[Tp.ex]
 simp only [h,bind,Except.bind,argsT]
 by_cases hc:tx r1=Tp.mComma
 ·simp[hc]
  cases Tp.ex f 7 o 0 [] (stp r1) with
  | error e=>rfl
  | ok v=>rfl
 ·simp[hc,addAll]
theorem RepL.grown {w w':World}{B:Nat}{v v':Value}{l:List X}{vs:List Value}(h:RepL w (fun b=>B<=b/\v.ownBlock≠some b) l vs) (hg:w.grownBy w' v.ownBlock) (hv:∀ g,v'.ownBlock=some g->v.ownBlock=some g\/w.heap.size<=g) :
  RepL w' (fun b=>B<=b/\v'.ownBlock≠some b) l vs:=by
 refine RepL.mono (fun b hb hl=>⟨hg.block b hl (fun e=>hb.2 e.symm),hb.1,fun e=>?_⟩) (SizeOf.sizeOf l) l vs zn h
 rcases hv b e with h1|h1
 ·exact hb.2 h1
 ·omega
theorem VA.snoc {w w':World}{B:Nat}{v v' u:Value}{l x:List X}{vs:List Value}(h:RepL w (fun b=>B<=b/\v.ownBlock≠some b) l vs) (hx:RepL w (fun b=>B<=b/\v.ownBlock≠some b) x [u])
  (hown:w'.ownsRow B 179 1 v' (vs.length+1) (vs++[u])) (hg:w.grownBy w' v.ownBlock) (hv:∀ g,v'.ownBlock=some g->v.ownBlock=some g\/w.heap.size<=g) :
  RepL w' (fun b=>B<=b/\v'.ownBlock≠some b) (l++x) (vs++[u])/\w'.ownsRow B 179 1 v' (vs++[u]).length (vs++[u]) :=
 ⟨RepL.app _ _ _ _ (h.grown hg hv) (hx.grown hg hv),by simpa using hown⟩
theorem RepL.of_new {w:World}{B C:Nat}{v:Value}{l:List X}{vs:List Value}(h:RepL w (fun b=>C<=b) l vs) (hB:B<=C) (hv:∀ g,v.ownBlock=some g->g<C):RepL w (fun b=>B<=b/\v.ownBlock≠some b) l vs :=
 RepL.mono (fun b hb _=>⟨rfl,Nat.le_trans hB hb,fun e=>by have:=hv b e;omega⟩) (SizeOf.sizeOf l) l vs zn h
theorem RepL.alloc {w:World}{D:Nat->Prop}{l:List X}{vs:List Value}(h:RepL w D l vs) (ob:Obj):RepL (w.alloc ob) D l vs :=
 RepL.mono (fun b hb hl=>⟨Below.heap_alloc w ob b hl,hb⟩) (SizeOf.sizeOf l) l vs zn h
theorem args_none {p:Ps}{ts:List Tok}{w:World}{r:List Tok}{o b:Nat}(h:St w p ts r o b) (hr:tx r=Tp.mRp) :
  Calls Tryz.prog 191 #[.pointer (some ⟨p.pb,0,none⟩)] w fun e w'=>e=.returned (.slice none 0 0)/\St w' p ts r o b/\Ext p.pb w w':=by
 have hdec:=decide_eq_true hr
 clear hr
 go_enter Tryz.func191,Tryz.ntmps191
 go_wp2_with fail
 refine(yp h Tp.mRp _ rfl).mono ?_
 rintro e w1 ⟨rfl,hb1⟩
 go_wp2_with fail
 go_ret
 exact⟨rfl,h.below hb1,Ext.below hb1⟩
theorem args_some {p:Ps}{ts:List Tok}{f:Nat}(hL:LevelC p ts f) {w:World}{r:List Tok}{o b:Nat}(h:St w p ts r o b) (ho:o<=10) (hr:tx r≠Tp.mRp) (hfb:f<=100000) (hn:Tp.ex f 7 o 0 [] r≠.error (99,0)) :
  Calls Tryz.prog 191 #[.pointer (some ⟨p.pb,0,none⟩)] w fun e w'=>Post p ts o b w (VA w.heap.size) (Tp.ex f 7 o 0 [] r) e w':=by
 obtain⟨i0,hi,hz0,hz1,hz2⟩:=info_parts Tryz.infoPExpr
 have hmf:=zm
 have hpl:=zg h.c0
 have hdec:=decide_eq_false hr
 obtain⟨f1,rfl⟩:∃ f1,f=f1+1:=by
  cases f with
  | zero=>exact absurd rfl hn
  | succ k=>exact⟨k,rfl⟩
 have hL1:LevelC p ts f1:=hL.mono (by omega)
 have HL:Hid (∀ g,g<=f1->∀ W q,St W p ts q o b->Tp.ex g 0 (o+1) 0 [] q≠.error (99,0)->Calls Tryz.prog 190 #[.pointer (some ⟨p.pb,0,none⟩),.func (.func 157) #[.pointer (some ⟨p.pb,0,none⟩)] #[]] W fun e w'=>Post p ts o b W (VX W.heap.size) (Tp.ex g 0 (o+1) 0 [] q) e w') :=
  fun g hg W q hW hq=>kq hW (by omega) _ (fun w1 h1 _ _=>yy (hL1.mono hg) h1 (by omega) hq)
 have HN:Hid (Tp.ex (f1+1) 7 o 0 [] r≠.error (99,0)):=hn
 clear hr hn hL hL1
 go_enter Tryz.func191,Tryz.ntmps191
 go_wp2_with fail
 refine(yp h Tp.mRp _ rfl).mono ?_
 rintro e w1 ⟨rfl,hb1⟩
 have hst1:=h.below hb1
 go_wp2_with fail
 have hno:Tp.ex f1 0 (o+1) 0 [] r≠.error (99,0):=fun e=>HN.out (xN e)
 refine(HL.out f1 zn _ r hst1 hno).mono ?_
 intro e w2 hq
 generalize hres:Tp.ex f1 0 (o+1) 0 [] r=res at hq
 have HRX:Hid (Tp.ex f1 0 (o+1) 0 [] r=res):=hres
 clear hres hno
 rcases res with er|⟨x,r1⟩
 ·obtain⟨ht,hx2⟩:=hq
  obtain⟨ab,h1,rfl,h2,h3⟩:=ht.out
  go_wp2_with fail
  refine⟨rfl,?_⟩
  rw[xN HRX.out]
  exact zt (Ext.below hb1) ht hx2
 ·obtain⟨v,rfl,hv,hst2,hx2⟩:=hq
  obtain⟨bb,rfl⟩:=hv.ptr
  have hsz1:=hb1.size
  have hsz2:=hx2.size
  have hx2':Ext p.pb w w2:=(Ext.below hb1).trans hx2
  go_wp2_with fail
  have h0st:St (w2.alloc (.cells #[.pointer (some ⟨bb,0,none⟩)] 179)) p ts r1 o b:=hst2.below (zb _ _)
  have h0ext:Ext p.pb w (w2.alloc (.cells #[.pointer (some ⟨bb,0,none⟩)] 179)):=hx2'.trans (Ext.below (zb _ _))
  have h0own:(w2.alloc (.cells #[.pointer (some ⟨bb,0,none⟩)] 179)).ownsRow w.heap.size 179 1 (.slice (some ⟨w2.heap.size,0,none⟩) 1 1) 1 [.pointer (some ⟨bb,0,none⟩)] :=
   ⟨rfl,Or.inr ⟨w2.heap.size,1,#[.pointer (some ⟨bb,0,none⟩)],rfl,by omega,zo _ _,by omega,by unfold maxLen;omega,rfl,rfl⟩⟩
  have h0rep:RepL (w2.alloc (.cells #[.pointer (some ⟨bb,0,none⟩)] 179)) (fun b=>w.heap.size<=b/\(Value.slice (some ⟨w2.heap.size,0,none⟩) 1 1).ownBlock≠some b) x [.pointer (some ⟨bb,0,none⟩)]:=by
   refine RepL.mono (fun b hb hl=>⟨Below.heap_alloc w2 _ b hl,by omega,fun e=>?_⟩) (SizeOf.sizeOf x) x _ zn hv
   simp[Value.ownBlock]at e;omega
  clear hst2 hx2 hb1 hst1 hv
  go_loopg [3] f1 (fun k v wr=>∃(l:List X) (vs:List Value) (r':List Tok),k<=f1/\RepL wr (fun b=>w.heap.size<=b/\v.ownBlock≠some b) l vs/\wr.ownsRow w.heap.size 179 1 v vs.length vs/\St wr p ts r' o b/\Ext p.pb w wr/\addAll l (argsT k o r')=Tp.ex (f1+1) 7 o 0 [] r/\vs.length+k<=f1+1)
  case atStart=>exact⟨x,_,r1,Nat.le_refl _,h0rep,h0own,h0st,h0ext,(ex7_ok HRX.out).symm,by simp;omega⟩
  case round =>
   obtain⟨l,vs,r',hk,hrep,hown,hst,hext,hspec,hlen⟩:=hrel
   have HS:Hid (addAll l (argsT gk o r')=Tp.ex (f1+1) 7 o 0 [] r):=hspec
   obtain⟨ao,cap,hvv⟩:=zw hown
   subst hvv
   clear hspec h0st h0ext h0own h0rep
   go_wp2_with fail
   refine(zP hst Tp.mComma _ rfl).mono ?_
   rintro e w5 ⟨rfl,hst5,hx5⟩
   have hrep5:=RepL.ext hx5 (by omega) hrep
   have hown5:=zA hown hx5 hpl
   have hext5:=hext.trans hx5
   clear hrep hown hext hst
   by_cases hc:tx r'=Tp.mComma
   ·have hdec5:=decide_eq_true hc
    rw[if_pos hc]at hst5
    have HC:Hid (tx r'=Tp.mComma):=hc
    have hno7:Tp.ex gk 7 o 0 [] (stp r')≠.error (99,0):=by
     intro e;apply HN.out;rw[<-HS.out];unfold argsT;rw[if_pos HC.out,e];rfl
    obtain⟨g,rfl⟩:∃ g,gk=g+1:=by
     cases gk with
     | zero=>exact absurd rfl hno7
     | succ k=>exact⟨k,rfl⟩
    have hno:Tp.ex g 0 (o+1) 0 [] (stp r')≠.error (99,0):=fun e=>hno7 (xN e)
    have hcall:=HL.out g (by omega) w5 (stp r') hst5 hno
    clear hc hno7 hno
    generalize hres:Tp.ex g 0 (o+1) 0 [] (stp r')=res at hcall
    have HR:Hid (Tp.ex g 0 (o+1) 0 [] (stp r')=res):=hres
    have HCL:Hid (Calls Tryz.prog 190 #[.pointer (some ⟨p.pb,0,none⟩),.func (.func 157) #[.pointer (some ⟨p.pb,0,none⟩)] #[]] w5 fun e w'=>Post p ts o b w5 (VX w5.heap.size) res e w'):=hcall
    clear hres hcall
    go_wp2_with fail
    refine HCL.out.mono ?_
    intro e w6 hq
    rcases res with er|⟨y,r2⟩
    ·obtain⟨ht,hx6⟩:=hq
     obtain⟨ab,h1,rfl,h2,h3⟩:=ht.out
     go_wp2_with fail
     refine⟨rfl,?_⟩
     rw[<-HS.out,show argsT (g+1) o r'=.error er by unfold argsT;rw[if_pos HC.out,xN HR.out]]
     exact zt hext5 ht hx6
    ·obtain⟨u,rfl,hu,hst6,hx6⟩:=hq
     obtain⟨ub,rfl⟩:=hu.ptr
     have hown6:=zA hown5 hx6 hpl
     have hrep6:=RepL.ext hx6 (by omega) hrep5
     have hext6:=hext5.trans hx6
     have hsz6:=hext6.size
     have hsz5:=hext5.size
     have hob:∀ q,(Value.slice ao vs.length cap).ownBlock=some q->q<w5.heap.size:=fun q hq=>(hown5.lt q hq).2
     have hu6:=hu.of_new (v:=.slice ao vs.length cap) hsz5 hob
     clear hu hown5 hrep5 hst5 hx5 hx6 hext5
     go_wp2_with (at_builtin;refine zG _ rfl _ _ 214 rfl w.heap.size 179 i0 (.pointer none) 1 8 Tryz.underlying214 hi hz0 hz1 hz2 rfl (by decide) _ _ _ rfl (hown6.alloc _) ⟨w6.heap.size,0,none⟩ 1 1 [.pointer (some ⟨ub,0,none⟩)] rfl rfl ?c1 ?c2 ?c3 ?c4 ?c5 ?_)
     case c1 =>
      intro j u hj
      match j,hj with
      | 0,hj=>simp at hj;subst hj;simp[Addr.add]
     case c2=>intro u hu;simp at hu;subst hu;rfl
     case c3=>unfold maxLen;omega
     case c4=>omega
     case c5=>simp;omega
     ·intro v' w7 hown7 hgrow hwhere
      have hb7:Below w.heap.size w6 w7:=((Below.refl _ _).alloc hsz6 _).trans ((Below.refl _ _).grown hgrow (by simp;omega) (zT hown6))
      have hst7:=hst6.belowB hb7 hpl
      have hext7:Ext p.pb w w7:=hext6.trans' hb7
      have hsn:=VA.snoc (hrep6.alloc _) (hu6.alloc _) hown7 hgrow (by simpa using hwhere)
      clear hgrow hwhere hown6 hown7 hrep6 hu6 hst6 hext6 hb7
      go_wp2_with fail
      go_roundg g
      case measure=>omega
      case rel =>
       refine⟨l++y,vs++[.pointer (some ⟨ub,0,none⟩)],r2,by omega,hsn.1,hsn.2,hst7,hext7,?_,by simp;omega⟩
       rw[<-HS.out,<-yH,<-ex7_ok HR.out,show argsT (g+1) o r'=Tp.ex (g+1) 7 o 0 [] (stp r') by unfold argsT;rw[if_pos HC.out]]
   ·have hdec5:=decide_eq_false hc
    rw[if_neg hc]at hst5
    have HC:Hid (¬tx r'=Tp.mComma):=hc
    clear hc
    go_wp2_with fail
    go_ret
    rw[<-HS.out,show argsT gk o r'=.ok ([],r') by unfold argsT;rw[if_neg HC.out]]
    exact⟨_,rfl,⟨vs,by simpa using hrep5,hown5⟩,hst5,hext5⟩
theorem args_post {p:Ps}{ts:List Tok}{f:Nat}(hfb:f<=100000) (hL:LevelC p ts f):ArgsC p ts f:=by
 intro w r o b h ho hn
 unfold argsS at hn ⊢
 by_cases hr:tx r=Tp.mRp
 ·rw[if_pos hr]
  refine(args_none h hr).mono ?_
  rintro e w' ⟨rfl,h2,h3⟩
  exact⟨_,rfl,⟨[],by rw[RepL],World.ownsRow_nil _ _ _ _⟩,h2,h3⟩
 ·rw[if_neg hr]at hn ⊢
  exact args_some hL h ho hr hfb hn
def NamedC (p:Ps) (ts:List Tok) (f:Nat):Prop:=∀(w:World) (r:List Tok) (o b:Nat),St w p ts r o b->o<=10->Tp.ex f 6 o 0 [] r≠.error (99,0) ->
 Calls Tryz.prog 158 #[.pointer (some ⟨p.pb,0,none⟩)] w fun e w'=>Post p ts o b w (VX w.heap.size) (Tp.ex f 6 o 0 [] r) e w'
def OneC (p:Ps) (ts:List Tok) (f:Nat):Prop:=∀(w:World) (r:List Tok) (o b:Nat),St w p ts r o b->o<=11->Tp.ex f 5 o 0 [] r≠.error (99,0) ->
 Calls Tryz.prog 207 #[.pointer (some ⟨p.pb,0,none⟩)] w fun e w'=>Post p ts o b w (VX w.heap.size) (Tp.ex f 5 o 0 [] r) e w'
theorem one_deep {p:Ps}{ts:List Tok}{w:World}{r:List Tok}{o b:Nat}(h:St w p ts r o b) (ho:10<o) :
  Calls Tryz.prog 207 #[.pointer (some ⟨p.pb,0,none⟩)] w fun e w'=>Thrown w.heap.size (4,at' r) e w'/\Ext p.pb w w':=by
 have c3:=h.c3
 have ho':(10:Int)<(o:Int):=by omega
 clear ho
 go_enter Tryz.func207,Tryz.ntmps207
 go_wp2_with fail
 clear c3
 refine(zU h 4).mono ?_
 rintro e w2 ⟨ht,hb2⟩
 obtain⟨ab,h1,rfl,h2,h3⟩:=ht.out
 go_wp2_with fail
 exact⟨rfl,ht,Ext.below hb2⟩
theorem number_ok {w:World}{p:Ps}{ts r r1:List Tok}{o b n:Nat}(h:St w p ts r o b) (hr:Hid (Tp.number Tp.top r=.ok (n,r1))) :
  Calls Tryz.prog 103 #[.pointer (some ⟨p.pb,0,none⟩),.int .i64 9223372036854775807] w fun e w'=>e=.returned (.int .i64 (n:Int))/\St w' p ts r1 o b/\Ext p.pb w w':=by
 refine(ku h Tp.top (by unfold Tp.top;omega) zn).mono ?_
 intro e w' hq
 rw[hr.out]at hq
 obtain⟨v,h1,rfl,h2⟩:=hq
 exact⟨h1,h2⟩
theorem number_er {w:World}{p:Ps}{ts r:List Tok}{o b:Nat}{er:Tp.Er}(h:St w p ts r o b) (hr:Hid (Tp.number Tp.top r=.error er)) :
  Calls Tryz.prog 103 #[.pointer (some ⟨p.pb,0,none⟩),.int .i64 9223372036854775807] w fun e w'=>Thrown w.heap.size er e w'/\Ext p.pb w w':=by
 refine(ku h Tp.top (by unfold Tp.top;omega) zn).mono ?_
 intro e w' hq
 rw[hr.out]at hq
 exact hq
theorem one_number {p:Ps}{ts:List Tok}{w:World}{r:List Tok}{o b:Nat}(h:St w p ts r o b) (ho:¬10<o) (hk:(hd r).kind=2) (f:Nat) :
  Calls Tryz.prog 207 #[.pointer (some ⟨p.pb,0,none⟩)] w fun e w'=>Post p ts o b w (VX w.heap.size) (Tp.ex (f+1) 5 o 0 [] r) e w':=by
 have c3:=h.c3
 have hpl:=zg c3
 have ho':¬(10:Int)<(o:Int):=by omega
 have hk':(((hd r).kind:Int) == 2)=true:=by simp;omega
 have HE:Hid (Tp.ex (f+1) 5 o 0 [] r=(do let (n,r1) <- Tp.number Tp.top r;.ok ([⟨1,at' r,n,[],[],[],[],[],[]⟩],r1))):=by
  unfold Hid;rw[Tp.ex];simp[ho,hk]
 clear ho hk
 rcases hres:Tp.number Tp.top r with er|⟨n,r1⟩
 ·have HR:Hid (Tp.number Tp.top r=.error er):=hres
  clear hres
  go_enter Tryz.func207,Tryz.ntmps207
  go_wp2_with fail
  clear c3
  refine(zK h).mono ?_
  rintro e w1 ⟨rfl,hb1⟩
  have hba:∀ ob,Below w1.heap.size w1 (w1.alloc ob).drew:=fun ob=>(zb _ _).drew
  have HX:Hid (∀ ob,Ext p.pb w (w1.alloc ob).drew):=fun ob=>(Ext.below hb1).trans (Ext.below (hba ob))
  have HST:Hid (∀ ob,St (w1.alloc ob).drew p ts r o b):=fun ob=>(h.below hb1).below (hba ob)
  clear hba
  go_wp2_with fail
  go_region_dies
  all_goals (refine(number_er (HST.out _) HR).mono ?_;intro e w4 hq;obtain⟨ab,h1,h0,h2,h3⟩:=hq.1.out;subst h0;refine⟨rfl,?_⟩;rw[HE.out,HR.out];exact zt (HX.out _) hq.1 hq.2)
 ·have HR:Hid (Tp.number Tp.top r=.ok (n,r1)):=hres
  clear hres
  go_enter Tryz.func207,Tryz.ntmps207
  go_wp2_with fail
  clear c3
  refine(zK h).mono ?_
  rintro e w1 ⟨rfl,hb1⟩
  have hba:∀ ob,Below w1.heap.size w1 (w1.alloc ob).drew:=fun ob=>(zb _ _).drew
  have HX:Hid (∀ ob,Ext p.pb w (w1.alloc ob).drew):=fun ob=>(Ext.below hb1).trans (Ext.below (hba ob))
  have HST:Hid (∀ ob,St (w1.alloc ob).drew p ts r o b):=fun ob=>(h.below hb1).below (hba ob)
  have hsz1:=hb1.size
  clear hba
  go_wp2_with fail
  go_region_with (go_at_call 103;refine(number_ok (HST.out _) HR).mono ?_;rintro e w4 ⟨rfl,hst4,hx4⟩;have y1:w4.cell? ⟨w1.heap.size,1,none⟩=some (.int .i64 ((hd r).pos:Int)):=hx4.cell (by simp[go_sem]) (by simp;omega))
  all_goals
   have hsz4:=hx4.size
   simp at hsz4
   go_wp2_with fail
   go_ret
   rw[HE.out,HR.out]
   exact⟨_,rfl,VX.node (by omega) (zo w4 _) (Or.inl ⟨rfl,rfl⟩) (Or.inl ⟨rfl,rfl⟩) (Or.inl ⟨rfl,rfl⟩),hst4.below (zb _ _),((HX.out _).trans hx4).trans (Ext.below (zb _ _))⟩
theorem yd {w:World}{a:Addr}{v:Value}(h:w.cell? a=some v) (ob:Obj):(w.alloc ob).cell? a=some v:=(World.cell?_alloc_lt _ _ _ (World.block_lt_of_cell? _ _ h)).trans h
theorem ex5_un {f o:Nat}{r:List Tok}(ho:¬10<o) (hk:(hd r).kind≠2) (ht:tx r=Tp.mMinus\/tx r=Tp.wNot) :
  Tp.ex (f+1) 5 o 0 [] r=(do let (x,r1) <- Tp.ex f 5 (o+1) 0 [] (stp r);.ok ([⟨4,at' r,0,[],[],tx r,x,[],[]⟩],r1)):=by
 rw[Tp.ex];simp only [show ¬(5<5) by omega,if_false,if_true,ho,hk,ht]
theorem ex5_paren {f o:Nat}{r:List Tok}(ho:¬10<o) (hk:(hd r).kind≠2) (ht:tx r=Tp.mLp) :
  Tp.ex (f+1) 5 o 0 [] r=(do let (x,r1) <- Tp.ex f 0 (o+1) 0 [] (stp r);let r2 <- Tp.want Tp.mRp r1;.ok (x,r2)):=by
 rw[Tp.ex];simp only [show ¬(5<5) by omega,if_false,if_true,ho,hk,ht,show ¬(Tp.mLp=Tp.mMinus\/Tp.mLp=Tp.wNot) by decide]
theorem ex5_named {f o:Nat}{r:List Tok}(ho:¬10<o) (hk:(hd r).kind≠2) (h1:tx r≠Tp.mMinus) (h2:tx r≠Tp.wNot) (h3:tx r≠Tp.mLp) :
  Tp.ex (f+1) 5 o 0 [] r=Tp.ex f 6 o 0 [] r:=by
 rw[Tp.ex];simp only [show ¬(5<5) by omega,if_false,if_true,ho,hk,h1,h2,h3,or_self]
theorem kE {w:World}{p:Ps}{ts r:List Tok}{o b f:Nat}{er:Tp.Er}(hO:Hid (OneC p ts f)) (h:St w p ts r o b) (ho:o<=10) (hr:Hid (Tp.ex f 5 (o+1) 0 [] r=.error er)) (hne:Hid (er≠(99,0))) :
  Calls Tryz.prog 190 #[.pointer (some ⟨p.pb,0,none⟩),.func (.func 207) #[.pointer (some ⟨p.pb,0,none⟩)] #[]] w fun e w'=>Thrown w.heap.size er e w'/\Ext p.pb w w':=by
 have hq:Tp.ex f 5 (o+1) 0 [] r≠.error (99,0):=by rw[hr.out];intro e;exact hne.out (by injection e)
 have:=jS h (by omega) _ (fun w1 h1 _ _=>hO.out w1 r (o+1) b h1 (by omega) hq)
 rw[hr.out]at this
 exact this
theorem kD {w:World}{p:Ps}{ts r r1:List Tok}{o b f:Nat}{x:List X}(hO:Hid (OneC p ts f)) (h:St w p ts r o b) (ho:o<=10) (hr:Hid (Tp.ex f 5 (o+1) 0 [] r=.ok (x,r1))) :
  Calls Tryz.prog 190 #[.pointer (some ⟨p.pb,0,none⟩),.func (.func 207) #[.pointer (some ⟨p.pb,0,none⟩)] #[]] w fun e w'=>∃ bb,e=.returned (.pointer (some ⟨bb,0,none⟩))/\VX w.heap.size x (.pointer (some ⟨bb,0,none⟩)) w'/\St w' p ts r1 o b/\Ext p.pb w w':=by
 have hq:Tp.ex f 5 (o+1) 0 [] r≠.error (99,0):=by rw[hr.out];intro e;cases e
 have:=jS h (by omega) _ (fun w1 h1 _ _=>hO.out w1 r (o+1) b h1 (by omega) hq)
 rw[hr.out]at this
 refine this.mono ?_
 intro e w' hq
 obtain⟨v,h1,h2,h3⟩:=hq
 obtain⟨bb,rfl⟩:=h2.ptr
 exact⟨bb,h1,h2,h3⟩
theorem one_minus {p:Ps}{ts:List Tok}{f:Nat}(hO:OneC p ts f) {w:World}{r:List Tok}{o b:Nat}(h:St w p ts r o b) (ho:¬10<o) (hk:(hd r).kind≠2) (ht:tx r=Tp.mMinus) (hn:Tp.ex (f+1) 5 o 0 [] r≠.error (99,0)) :
  Calls Tryz.prog 207 #[.pointer (some ⟨p.pb,0,none⟩)] w fun e w'=>Post p ts o b w (VX w.heap.size) (Tp.ex (f+1) 5 o 0 [] r) e w':=by
 have hmf:=zm
 have c3:=h.c3
 have hpl:=zg c3
 have ho':¬(10:Int)<(o:Int):=by omega
 have ho2:o<=10:=by omega
 have hk':(((hd r).kind:Int) == 2)=false:=by simp;omega
 have HE:Hid (Tp.ex (f+1) 5 o 0 [] r=(do let (x,r1) <- Tp.ex f 5 (o+1) 0 [] (stp r);.ok ([⟨4,at' r,0,[],[],tx r,x,[],[]⟩],r1))):=ex5_un ho hk (Or.inl ht)
 have HO:Hid (OneC p ts f):=hO
 have HT:Hid (tx r=Tp.mMinus):=ht
 have HN:Hid (Tp.ex (f+1) 5 o 0 [] r≠.error (99,0)):=hn
 clear ho hk ht hO hn
 rcases hres:Tp.ex f 5 (o+1) 0 [] (stp r) with er|⟨x,r1⟩
 ·have HR:Hid (Tp.ex f 5 (o+1) 0 [] (stp r)=.error er):=hres
  have HER:Hid (er≠(99,0)):=by intro e;apply HN.out;rw[HE.out,HR.out,e];rfl
  clear hres
  go_enter Tryz.func207,Tryz.ntmps207
  go_wp2_with fail
  clear c3
  refine(zK h).mono ?_
  rintro e w1 ⟨rfl,hb1⟩
  have hsz1:=hb1.size
  have hba:∀ ob,Below w1.heap.size w1 (w1.alloc ob):=fun ob=>zb _ _
  have HX:Hid (∀ ob,Ext p.pb w (w1.alloc ob)):=fun ob=>(Ext.below hb1).trans (Ext.below (hba ob))
  have HST:Hid (∀ ob,St (w1.alloc ob) p ts r o b):=fun ob=>(h.below hb1).below (hba ob)
  clear hba
  go_wp2_with fail
  refine(zP (HST.out _) Tp.mMinus _ rfl).mono ?_
  rintro e w2 ⟨rfl,hst2,hx2⟩
  rw[if_pos HT.out]at hst2
  have hdec:=decide_eq_true HT.out
  have y1:w2.cell? ⟨w1.heap.size,1,none⟩=some (.int .i64 ((hd r).pos:Int)):=hx2.cell (by simp[go_sem]) (by simp;omega)
  have y2:w2.cell? ⟨w1.heap.size,2,none⟩=some (.string (bs (hd r).text)):=hx2.cell (by simp[go_sem]) (by simp;omega)
  have hext:Ext p.pb w w2:=((HX.out _).trans hx2)
  have hl1:=zg y1
  have HEXT:Hid (Ext p.pb w w2.drew):=hext.trans (Ext.below (zB _))
  have HS2:Hid (St w2.drew p ts (stp r) o b):=hst2.below (zB _)
  clear hext
  go_wp2_with fail
  go_region_dies
  all_goals (refine(kE HO HS2.out ho2 HR HER).mono ?_;intro e w4 hq;obtain⟨ab,h1,h0,h2,h3⟩:=hq.1.out;subst h0;refine⟨rfl,?_⟩;rw[HE.out,HR.out];exact zt HEXT.out hq.1 hq.2)
 ·have HR:Hid (Tp.ex f 5 (o+1) 0 [] (stp r)=.ok (x,r1)):=hres
  clear hres
  go_enter Tryz.func207,Tryz.ntmps207
  go_wp2_with fail
  clear c3
  refine(zK h).mono ?_
  rintro e w1 ⟨rfl,hb1⟩
  have hsz1:=hb1.size
  have hba:∀ ob,Below w1.heap.size w1 (w1.alloc ob):=fun ob=>zb _ _
  have HX:Hid (∀ ob,Ext p.pb w (w1.alloc ob)):=fun ob=>(Ext.below hb1).trans (Ext.below (hba ob))
  have HST:Hid (∀ ob,St (w1.alloc ob) p ts r o b):=fun ob=>(h.below hb1).below (hba ob)
  clear hba
  go_wp2_with fail
  refine(zP (HST.out _) Tp.mMinus _ rfl).mono ?_
  rintro e w2 ⟨rfl,hst2,hx2⟩
  rw[if_pos HT.out]at hst2
  have hdec:=decide_eq_true HT.out
  have y1:w2.cell? ⟨w1.heap.size,1,none⟩=some (.int .i64 ((hd r).pos:Int)):=hx2.cell (by simp[go_sem]) (by simp;omega)
  have y2:w2.cell? ⟨w1.heap.size,2,none⟩=some (.string (bs (hd r).text)):=hx2.cell (by simp[go_sem]) (by simp;omega)
  have hext:Ext p.pb w w2:=((HX.out _).trans hx2)
  have hl1:=zg y1
  have HEXT:Hid (Ext p.pb w w2.drew):=hext.trans (Ext.below (zB _))
  have HS2:Hid (St w2.drew p ts (stp r) o b):=hst2.below (zB _)
  clear hext
  go_wp2_with fail
  go_region_held3 (fun w'=>w'.cell? ⟨w1.heap.size,1,none⟩=some (.int .i64 ((hd r).pos:Int))/\w'.cell? ⟨w1.heap.size,2,none⟩=some (.string (bs (hd r).text))) (first|(exact⟨y1,y2⟩)|(exact⟨z1,z2⟩)|(exact⟨yd z1 _,yd z2 _⟩)) ((go_at_call 190;refine(kD HO HS2.out ho2 HR).mono ?_;rintro e w4 ⟨bb,rfl,hv,hst4,hx4⟩;have z1:w4.cell? ⟨w1.heap.size,1,none⟩=some (.int .i64 ((hd r).pos:Int)):=hx4.cell (by simpa using y1) (by simp;omega);have z2:w4.cell? ⟨w1.heap.size,2,none⟩=some (.string (bs (hd r).text)):=hx4.cell (by simpa using y2) (by simp;omega)))
  all_goals
   have hsz4:=hx4.size
   have hszE:=HEXT.out.size
   simp at hsz4 hszE
   go_wp2_with fail
   go_ret
   rw[HE.out,HR.out]
   have hal:Below w4.heap.size w4 (w4.alloc (.cells (xcells 4 (hd r).pos 0 ⟨#[]⟩ ⟨#[]⟩ (bs (hd r).text) (.pointer (some ⟨bb,0,none⟩)) (.pointer none) (.slice none 0 0)) 216)):=zb _ _
   exact⟨_,rfl,VX.node (by omega) (zo w4 _) (Or.inr ((VX.ext (b:=p.pb) (Ext.below hal) (by simp;omega) hv).base (by simp;omega))) (Or.inl ⟨rfl,rfl⟩) (Or.inl ⟨rfl,rfl⟩),hst4.below hal,(HEXT.out.trans hx4).trans (Ext.below hal)⟩
theorem one_not {p:Ps}{ts:List Tok}{f:Nat}(hO:OneC p ts f) {w:World}{r:List Tok}{o b:Nat}(h:St w p ts r o b) (ho:¬10<o) (hk:(hd r).kind≠2) (ht:tx r=Tp.wNot) (hn:Tp.ex (f+1) 5 o 0 [] r≠.error (99,0)) :
  Calls Tryz.prog 207 #[.pointer (some ⟨p.pb,0,none⟩)] w fun e w'=>Post p ts o b w (VX w.heap.size) (Tp.ex (f+1) 5 o 0 [] r) e w':=by
 have hmf:=zm
 have c3:=h.c3
 have hpl:=zg c3
 have ho':¬(10:Int)<(o:Int):=by omega
 have ho2:o<=10:=by omega
 have hk':(((hd r).kind:Int) == 2)=false:=by simp;omega
 have HE:Hid (Tp.ex (f+1) 5 o 0 [] r=(do let (x,r1) <- Tp.ex f 5 (o+1) 0 [] (stp r);.ok ([⟨4,at' r,0,[],[],tx r,x,[],[]⟩],r1))):=ex5_un ho hk (Or.inr ht)
 have HO:Hid (OneC p ts f):=hO
 have HT:Hid (tx r=Tp.wNot):=ht
 have HN:Hid (Tp.ex (f+1) 5 o 0 [] r≠.error (99,0)):=hn
 clear ho hk ht hO hn
 rcases hres:Tp.ex f 5 (o+1) 0 [] (stp r) with er|⟨x,r1⟩
 ·have HR:Hid (Tp.ex f 5 (o+1) 0 [] (stp r)=.error er):=hres
  have HER:Hid (er≠(99,0)):=by intro e;apply HN.out;rw[HE.out,HR.out,e];rfl
  clear hres
  go_enter Tryz.func207,Tryz.ntmps207
  go_wp2_with fail
  clear c3
  refine(zK h).mono ?_
  rintro e w1 ⟨rfl,hb1⟩
  have hsz1:=hb1.size
  have hba:∀ ob,Below w1.heap.size w1 (w1.alloc ob):=fun ob=>zb _ _
  have HX:Hid (∀ ob,Ext p.pb w (w1.alloc ob)):=fun ob=>(Ext.below hb1).trans (Ext.below (hba ob))
  have HST:Hid (∀ ob,St (w1.alloc ob) p ts r o b):=fun ob=>(h.below hb1).below (hba ob)
  clear hba
  go_wp2_with fail
  refine(zP (HST.out _) Tp.mMinus _ rfl).mono ?_
  rintro e w2 ⟨rfl,hst2,hx2⟩
  rw[if_neg (by rw[HT.out];decide)]at hst2
  have hdec:decide (tx r=Tp.mMinus)=false:=by rw[HT.out];decide
  have hcx:=hx2.cell (show (w1.alloc (.cells #[.int .i64 ((hd r).kind:Int),.int .i64 ((hd r).pos:Int),.string (bs (hd r).text)] 125)).cell? ⟨w1.heap.size,0,none⟩=some (.int .i64 ((hd r).kind:Int)) by simp[go_sem]) (by simp;omega)
  go_wp2_with fail
  clear hdec hcx
  refine(zP hst2 Tp.wNot _ rfl).mono ?_
  rintro e w3 ⟨rfl,hst3,hx3⟩
  rw[if_pos HT.out]at hst3
  have hdec:=decide_eq_true HT.out
  have y1:w3.cell? ⟨w1.heap.size,1,none⟩=some (.int .i64 ((hd r).pos:Int)):=hx3.cell (hx2.cell (by simp[go_sem]) (by simp;omega)) (by simp;omega)
  have y2:w3.cell? ⟨w1.heap.size,2,none⟩=some (.string (bs (hd r).text)):=hx3.cell (hx2.cell (by simp[go_sem]) (by simp;omega)) (by simp;omega)
  have hext:Ext p.pb w w3:=(((HX.out _).trans hx2).trans hx3)
  have hl1:=zg y1
  have HEXT:Hid (Ext p.pb w w3.drew):=hext.trans (Ext.below (zB _))
  have HS2:Hid (St w3.drew p ts (stp r) o b):=hst3.below (zB _)
  clear hext
  go_wp2_with fail
  go_region_dies
  all_goals (refine(kE HO HS2.out ho2 HR HER).mono ?_;intro e w4 hq;obtain⟨ab,h1,h0,h2,h3⟩:=hq.1.out;subst h0;refine⟨rfl,?_⟩;rw[HE.out,HR.out];exact zt HEXT.out hq.1 hq.2)
 ·have HR:Hid (Tp.ex f 5 (o+1) 0 [] (stp r)=.ok (x,r1)):=hres
  clear hres
  go_enter Tryz.func207,Tryz.ntmps207
  go_wp2_with fail
  clear c3
  refine(zK h).mono ?_
  rintro e w1 ⟨rfl,hb1⟩
  have hsz1:=hb1.size
  have hba:∀ ob,Below w1.heap.size w1 (w1.alloc ob):=fun ob=>zb _ _
  have HX:Hid (∀ ob,Ext p.pb w (w1.alloc ob)):=fun ob=>(Ext.below hb1).trans (Ext.below (hba ob))
  have HST:Hid (∀ ob,St (w1.alloc ob) p ts r o b):=fun ob=>(h.below hb1).below (hba ob)
  clear hba
  go_wp2_with fail
  refine(zP (HST.out _) Tp.mMinus _ rfl).mono ?_
  rintro e w2 ⟨rfl,hst2,hx2⟩
  rw[if_neg (by rw[HT.out];decide)]at hst2
  have hdec:decide (tx r=Tp.mMinus)=false:=by rw[HT.out];decide
  have hcx:=hx2.cell (show (w1.alloc (.cells #[.int .i64 ((hd r).kind:Int),.int .i64 ((hd r).pos:Int),.string (bs (hd r).text)] 125)).cell? ⟨w1.heap.size,0,none⟩=some (.int .i64 ((hd r).kind:Int)) by simp[go_sem]) (by simp;omega)
  go_wp2_with fail
  clear hdec hcx
  refine(zP hst2 Tp.wNot _ rfl).mono ?_
  rintro e w3 ⟨rfl,hst3,hx3⟩
  rw[if_pos HT.out]at hst3
  have hdec:=decide_eq_true HT.out
  have y1:w3.cell? ⟨w1.heap.size,1,none⟩=some (.int .i64 ((hd r).pos:Int)):=hx3.cell (hx2.cell (by simp[go_sem]) (by simp;omega)) (by simp;omega)
  have y2:w3.cell? ⟨w1.heap.size,2,none⟩=some (.string (bs (hd r).text)):=hx3.cell (hx2.cell (by simp[go_sem]) (by simp;omega)) (by simp;omega)
  have hext:Ext p.pb w w3:=(((HX.out _).trans hx2).trans hx3)
  have hl1:=zg y1
  have HEXT:Hid (Ext p.pb w w3.drew):=hext.trans (Ext.below (zB _))
  have HS2:Hid (St w3.drew p ts (stp r) o b):=hst3.below (zB _)
  clear hext
  go_wp2_with fail
  go_region_held3 (fun w'=>w'.cell? ⟨w1.heap.size,1,none⟩=some (.int .i64 ((hd r).pos:Int))/\w'.cell? ⟨w1.heap.size,2,none⟩=some (.string (bs (hd r).text))) (first|(exact⟨y1,y2⟩)|(exact⟨z1,z2⟩)|(exact⟨yd z1 _,yd z2 _⟩)) ((go_at_call 190;refine(kD HO HS2.out ho2 HR).mono ?_;rintro e w4 ⟨bb,rfl,hv,hst4,hx4⟩;have z1:w4.cell? ⟨w1.heap.size,1,none⟩=some (.int .i64 ((hd r).pos:Int)):=hx4.cell (by simpa using y1) (by simp;omega);have z2:w4.cell? ⟨w1.heap.size,2,none⟩=some (.string (bs (hd r).text)):=hx4.cell (by simpa using y2) (by simp;omega)))
  all_goals
   have hsz4:=hx4.size
   have hszE:=HEXT.out.size
   simp at hsz4 hszE
   go_wp2_with fail
   go_ret
   rw[HE.out,HR.out]
   have hal:Below w4.heap.size w4 (w4.alloc (.cells (xcells 4 (hd r).pos 0 ⟨#[]⟩ ⟨#[]⟩ (bs (hd r).text) (.pointer (some ⟨bb,0,none⟩)) (.pointer none) (.slice none 0 0)) 216)):=zb _ _
   exact⟨_,rfl,VX.node (by omega) (zo w4 _) (Or.inr ((VX.ext (b:=p.pb) (Ext.below hal) (by simp;omega) hv).base (by simp;omega))) (Or.inl ⟨rfl,rfl⟩) (Or.inl ⟨rfl,rfl⟩),hst4.below hal,(HEXT.out.trans hx4).trans (Ext.below hal)⟩
theorem yY {w:World}{p:Ps}{ts r:List Tok}{o b f:Nat}{res:Except Tp.Er (List X× List Tok)}(hL:Hid (LevelC p ts f)) (h:St w p ts r o b) (ho:o<=10) (hr:Hid (Tp.ex f 0 (o+1) 0 [] r=res)) (hne:Hid (res≠.error (99,0))) :
  Calls Tryz.prog 190 #[.pointer (some ⟨p.pb,0,none⟩),.func (.func 157) #[.pointer (some ⟨p.pb,0,none⟩)] #[]] w fun e w'=>Post p ts o b w (VX w.heap.size) res e w':=by
 have hq:Tp.ex f 0 (o+1) 0 [] r≠.error (99,0):=by rw[hr.out];exact hne.out
 have:=kq h (by omega) _ (fun w1 h1 _ _=>yy hL.out h1 (by omega) hq)
 rw[hr.out]at this
 exact this
theorem one_rest {p:Ps}{ts:List Tok}{f:Nat}(hL:LevelC p ts f) (hM:NamedC p ts f) {w:World}{r:List Tok}{o b:Nat}(h:St w p ts r o b) (ho:¬10<o) (hk:(hd r).kind≠2) (t1:tx r≠Tp.mMinus) (t2:tx r≠Tp.wNot) (hn:Tp.ex (f+1) 5 o 0 [] r≠.error (99,0)) :
  Calls Tryz.prog 207 #[.pointer (some ⟨p.pb,0,none⟩)] w fun e w'=>Post p ts o b w (VX w.heap.size) (Tp.ex (f+1) 5 o 0 [] r) e w':=by
 have hmf:=zm
 have c3:=h.c3
 have hpl:=zg c3
 have ho':¬(10:Int)<(o:Int):=by omega
 have ho2:o<=10:=by omega
 have hk':(((hd r).kind:Int) == 2)=false:=by simp;omega
 have HE1:Hid (tx r=Tp.mLp->Tp.ex (f+1) 5 o 0 [] r=(do let (x,r1) <- Tp.ex f 0 (o+1) 0 [] (stp r);let r2 <- Tp.want Tp.mRp r1;.ok (x,r2))):=fun ht=>ex5_paren ho hk ht
 have HE2:Hid (tx r≠Tp.mLp->Tp.ex (f+1) 5 o 0 [] r=Tp.ex f 6 o 0 [] r):=fun ht=>ex5_named ho hk t1 t2 ht
 have HL:Hid (LevelC p ts f):=hL
 have HM:Hid (NamedC p ts f):=hM
 have HN:Hid (Tp.ex (f+1) 5 o 0 [] r≠.error (99,0)):=hn
 have hd1:=decide_eq_false t1
 have hd2:=decide_eq_false t2
 have T1:Hid (¬tx r=Tp.mMinus):=t1
 have T2:Hid (¬tx r=Tp.wNot):=t2
 clear ho hk hL hM hn t1 t2
 go_enter Tryz.func207,Tryz.ntmps207
 go_wp2_with fail
 clear c3
 refine(zK h).mono ?_
 rintro e w1 ⟨rfl,hb1⟩
 have hsz1:=hb1.size
 have hba:∀ ob,Below w1.heap.size w1 (w1.alloc ob):=fun ob=>zb _ _
 have HX:Hid (∀ ob,Ext p.pb w (w1.alloc ob)):=fun ob=>(Ext.below hb1).trans (Ext.below (hba ob))
 have HST:Hid (∀ ob,St (w1.alloc ob) p ts r o b):=fun ob=>(h.below hb1).below (hba ob)
 clear hba
 go_wp2_with fail
 refine(zP (HST.out _) Tp.mMinus _ rfl).mono ?_
 rintro e w2 ⟨rfl,hst2,hx2⟩
 rw[if_neg T1.out]at hst2
 have hxa:=(HX.out _).trans hx2
 go_wp2_with fail
 refine(zP hst2 Tp.wNot _ rfl).mono ?_
 rintro e w3 ⟨rfl,hst3,hx3⟩
 rw[if_neg T2.out]at hst3
 have hxb:=hxa.trans hx3
 clear hst2 hx2 hxa hx3
 go_wp2_with fail
 refine(zP hst3 Tp.mLp _ rfl).mono ?_
 rintro e w4 ⟨rfl,hst4,hx4⟩
 have hxc:=hxb.trans hx4
 clear hst3 hx4 hxb
 by_cases hlp:tx r=Tp.mLp
 ·have hd3:=decide_eq_true hlp
  rw[if_pos hlp]at hst4
  have HE:Hid (Tp.ex (f+1) 5 o 0 [] r=(do let (x,r1) <- Tp.ex f 0 (o+1) 0 [] (stp r);let r2 <- Tp.want Tp.mRp r1;.ok (x,r2))):=HE1.out hlp
  clear hlp HE1 HE2
  rcases hres:Tp.ex f 0 (o+1) 0 [] (stp r) with er|⟨x,r1⟩
  ·have HR:Hid (Tp.ex f 0 (o+1) 0 [] (stp r)=.error er):=hres
   have HER:Hid ((.error er:Except Tp.Er (List X× List Tok))≠.error (99,0)):=by intro e;apply HN.out;rw[HE.out,HR.out,e];rfl
   clear hres
   go_wp2_with fail
   refine(yY HL hst4 ho2 HR HER).mono ?_
   intro e w5 hq
   obtain⟨ht,hx5⟩:=hq
   obtain⟨ab,h1,rfl,h2,h3⟩:=ht.out
   go_wp2_with fail
   refine⟨rfl,?_⟩
   rw[HE.out,HR.out]
   exact zt hxc ht hx5
  ·have HR:Hid (Tp.ex f 0 (o+1) 0 [] (stp r)=.ok (x,r1)):=hres
   have HER:Hid ((.ok (x,r1):Except Tp.Er (List X× List Tok))≠.error (99,0)):=by intro e;cases e
   clear hres
   go_wp2_with fail
   refine(yY HL hst4 ho2 HR HER).mono ?_
   intro e w5 hq
   obtain⟨v,rfl,hv,hst5,hx5⟩:=hq
   obtain⟨bb,rfl⟩:=hv.ptr
   have hsz5:=hxc.size
   have hxd:=hxc.trans hx5
   clear hst4 hx5 hxc
   go_wp2_with fail
   by_cases hrp:tx r1=Tp.mRp
   ·refine(zE hst5 Tp.mRp _ rfl hrp).mono ?_
    rintro e w6 ⟨rfl,hst6,hx6⟩
    have HRB:Hid (tx r1=Tp.mRp):=hrp
    clear hrp hst5
    go_wp2_with fail
    go_ret
    rw[HE.out,HR.out]
    simp only [bind,Except.bind,Tp.want,if_pos HRB.out]
    exact⟨_,rfl,(VX.ext hx6 (by omega) hv).base hsz5,hst6,hxd.trans hx6⟩
   ·refine(zM hst5 Tp.mRp _ rfl hrp).mono ?_
    rintro e w6 ⟨ht,hx6⟩
    have HRB:Hid (¬tx r1=Tp.mRp):=hrp
    clear hrp
    obtain⟨ab,h1,rfl,h2,h3⟩:=ht.out
    go_wp2_with fail
    refine⟨rfl,?_⟩
    rw[HE.out,HR.out]
    simp only [bind,Except.bind,Tp.want,if_neg HRB.out]
    exact zt hxd ht hx6
 ·have hd3:=decide_eq_false hlp
  rw[if_neg hlp]at hst4
  have HE:Hid (Tp.ex (f+1) 5 o 0 [] r=Tp.ex f 6 o 0 [] r):=HE2.out hlp
  clear hlp HE1 HE2
  have hcall:=HM.out w4 r o b hst4 ho2 (by rw[<-HE.out];exact HN.out)
  rw[<-HE.out]at hcall
  generalize hres:Tp.ex (f+1) 5 o 0 [] r=res at hcall
  have HC:Hid (Calls Tryz.prog 158 #[.pointer (some ⟨p.pb,0,none⟩)] w4 fun e w'=>Post p ts o b w4 (VX w4.heap.size) res e w'):=hcall
  have HR:Hid (Tp.ex (f+1) 5 o 0 [] r=res):=hres
  clear hcall hres
  go_wp2_with fail
  refine HC.out.mono ?_
  intro e w5 hq
  rcases res with er|⟨x,r1⟩
  ·obtain⟨ht,hx5⟩:=hq
   obtain⟨ab,h1,rfl,h2,h3⟩:=ht.out
   go_wp2_with fail
   refine⟨rfl,?_⟩
   rw[HR.out]
   exact zt hxc ht hx5
  ·obtain⟨v,rfl,hv,hst5,hx5⟩:=hq
   have hsz5:=hxc.size
   go_wp2_with fail
   go_ret
   rw[HR.out]
   exact⟨_,rfl,hv.base hsz5,hst5,hxc.trans hx5⟩
theorem one_post {p:Ps}{ts:List Tok}{f:Nat}(hL:LevelC p ts f) (hO:OneC p ts f) (hM:NamedC p ts f):OneC p ts (f+1):=by
 intro w r o b h ho hn
 by_cases hd:10<o
 ·rw[show Tp.ex (f+1) 5 o 0 [] r=.error (4,at' r) by rw[Tp.ex];simp[hd]]
  exact one_deep h hd
 ·by_cases hk:(Tp.hd r).kind=2
  ·exact one_number h hd hk f
  ·by_cases h1:tx r=Tp.mMinus
   ·exact one_minus hO h hd hk h1 hn
   ·by_cases h2:tx r=Tp.wNot
    ·exact one_not hO h hd hk h2 hn
    ·exact one_rest hL hM h hd hk h1 h2 hn
end Go.Proofs.YtibncofnnlbmcaaGreatDoor
