import Derived.Test.YtmocelfkmdpogaaGreatDoorKWc
set_option maxRecDepth 100000
set_option maxHeartbeats 4000000
namespace Go.Proofs.YtmocelfkmdpogaaGreatDoor
open Go.RowKit
open Tp (Tok hd tx at' stp X S)
theorem xR {p:Ps}{ts:List Tok}{f:Nat}(hL:LevelC p ts f) (hS:StmtsC p ts f) {w:World}{r:List Tok}{b:Nat}(h:St w p ts r 0 b) (hb:b<=10) (code:Nat) (m:List UInt8) (y:ByteArray) (hy:Hid (y=bs m)) (hn:blockS f code b m r≠.error (99,0)) :
  Calls Tryz.prog 147 #[.pointer (some ⟨p.pb,0,none⟩),.int .i64 (code:Int),.string y] w fun e w'=>Post p ts 0 b w (VS w.heap.size) (blockS f code b m r) e w':=by
 have hpl:=zc h.c0
 have hbi:(b:Int)<=10:=by omega
 have hn0:Tp.ex f 0 0 0 [] (stp r)≠.error (99,0):=by intro e;apply hn;unfold blockS;rw[e];rfl
 have hcall:=fun W (hW:St W p ts (stp r) 0 b)=>yG hL hW (by omega) hn0
 have HS:Hid (StmtsC p ts f):=hS
 have HN:Hid (blockS f code b m r≠.error (99,0)):=hn
 generalize hres:Tp.ex f 0 0 0 [] (stp r)=res at hcall
 have HR:Hid (Tp.ex f 0 0 0 [] (stp r)=res):=hres
 have HC:Hid (∀ W,St W p ts (stp r) 0 b->Calls Tryz.prog 187 #[.pointer (some ⟨p.pb,0,none⟩)] W fun e w'=>Post p ts 0 b W (VX W.heap.size) res e w'):=hcall
 clear hcall hn hn0 hL hS hres
 go_enter Tryz.func147,Tryz.ntmps147
 go_wp2_with fail
 have hba:∀(W:World) ob,Below W.heap.size W (W.alloc ob):=fun W ob=>zb _ _
 refine(yW (h.below (hba _ _))).mono ?_
 rintro e w1 ⟨rfl,hst1,hx1⟩
 have hrb1:w1.heap[w.heap.size]?=some (.cells (scells 0 0 ⟨#[]⟩ (.pointer none) (.pointer none) (.slice none 0 0) (.slice none 0 0)) 139 (0,0)):=(hx1.block _ (by simp) (by omega)).trans (zk _ _)
 have hext1:Ext p.pb w w1:=(Ext.below (hba _ _)).trans hx1
 have hsz1:=zi hrb1
 have HB:Hid (∀(W:World) ob,Below W.heap.size W (W.alloc ob)):=hba
 clear hx1 hba
 go_wp2_with fail
 refine(HC.out _ (hst1.below (HB.out _ _))).mono ?_
 intro e w2 hq
 have HX1:Hid (∀ ob,Ext p.pb w (w1.alloc ob)):=fun ob=>hext1.trans (Ext.below (HB.out _ _))
 clear hst1
 rcases res with er|⟨x,r1⟩
 ·obtain⟨ht,hx2⟩:=hq
  obtain⟨ab,h1,rfl,h2,h3⟩:=ht.out
  go_wp2_with fail
  refine⟨rfl,?_⟩
  rw[show blockS f code b m r=.error er by unfold blockS;rw[HR.out];rfl]
  exact zt (HX1.out _) ht hx2
 ·obtain⟨v,rfl,hv,hst2,hx2⟩:=hq
  obtain⟨bb,rfl⟩:=hv.ptr
  have hrb2:=(hx2.block w.heap.size (by simp;omega) (by omega)).trans ((Below.heap_alloc _ _ _ hsz1).trans hrb1)
  have hsb2:w2.heap[w1.heap.size]?=some (.cells (scells code (at' r) ⟨#[]⟩ (.pointer none) (.pointer none) (.slice none 0 0) (.slice none 0 0)) 139 (0,0)):=(hx2.block _ (by simp) (by omega)).trans (zk _ _)
  have hext2:=(HX1.out _).trans hx2
  obtain⟨sb,hsb⟩:∃ sb,sb=w1.heap.size:=⟨_,rfl⟩
  obtain⟨rb,hrb⟩:∃ rb,rb=w.heap.size:=⟨_,rfl⟩
  have hv2:VX (sb+1) x (.pointer (some ⟨bb,0,none⟩)) w2:=hv.base (by simp;omega)
  have hsw:w.heap.size<sb:=by omega
  rw[<-hsb]at hsb2 ⊢
  rw[<-hrb]at hrb2 ⊢
  have hrw:w.heap.size<=rb:=by omega
  have hrs:rb<sb:=by omega
  have hps:p.pb<rb:=by omega
  clear hsb hrb hrb1 hext1 hsz1 hv hx2 HX1
  have k4:w2.cell? ⟨sb,4,none⟩=some (.pointer none):=za hsb2
  have z4:w2.frozen? ⟨sb,4,none⟩=false:=zg hsb2
  go_wp2_with fail
  clear k4 z4
  have hb3:Below sb w2 (w2.setCell ⟨sb,4,none⟩ (.pointer (some ⟨bb,0,none⟩))):=zq (Below.refl _ _) zn 4 _
  have hst3:=hst2.belowB hb3 (by omega)
  have hext3:=hext2.trans' (hb3.mono (by omega))
  have hsb3:=zw 4 (.pointer (some ⟨bb,0,none⟩)) hsb2
  have hrb3:=(hb3.block rb hrs).trans hrb2
  have hv3:VX (sb+1) x (.pointer (some ⟨bb,0,none⟩)) (w2.setCell ⟨sb,4,none⟩ (.pointer (some ⟨bb,0,none⟩))):=VX.ext ((Ext.refl sb w2).set 4 _) (by omega) hv2
  generalize w2.setCell ⟨sb,4,none⟩ (.pointer (some ⟨bb,0,none⟩))=w3 at hb3 hst3 hext3 hsb3 hrb3 hv3 ⊢
  clear hb3 hst2 hext2 hsb2 hrb2 hv2
  by_cases hse:tx r1=m
  ·refine(zD hst3 m _ hy hse).mono ?_
   rintro e w4 ⟨rfl,hst4,hx4⟩
   have HSE:Hid (Tp.want m r1=.ok (stp r1)):=by unfold Hid Tp.want;rw[if_pos hse]
   clear hse hst3
   have hsb4:w4.heap[sb]?=some (.cells (scells code (at' r) ⟨#[]⟩ (.pointer none) (.pointer (some ⟨bb,0,none⟩)) (.slice none 0 0) (.slice none 0 0)) 139 (0,0)):=(hx4.block sb (zi hsb3) (by omega)).trans hsb3
   have hrb4:w4.heap[rb]?=some (.cells (scells 0 0 ⟨#[]⟩ (.pointer none) (.pointer none) (.slice none 0 0) (.slice none 0 0)) 139 (0,0)):=(hx4.block rb (zi hrb3) (by omega)).trans hrb3
   have hext4:=hext3.trans hx4
   have hv4:=VX.ext hx4 (by omega) hv3
   have hls4:=zi hsb4
   clear hx4 hext3 hsb3 hrb3 hv3
   have hno:Tp.sx f 0 (b+1) (stp r1)≠.error (99,0):=by
    intro e;apply HN.out;unfold blockS;simp only [HR.out,HSE.out,e,bind,Except.bind]
   have hcl:=fun W (hW:St W p ts (stp r1) 0 (b+1))=>HS.out W (stp r1) (b+1) hW (by omega) hno
   generalize hres2:Tp.sx f 0 (b+1) (stp r1)=res2 at hcl
   have HR2:Hid (Tp.sx f 0 (b+1) (stp r1)=res2):=hres2
   have HCL:Hid (∀ W,St W p ts (stp r1) 0 (b+1)->Calls Tryz.prog 62 #[.pointer (some ⟨p.pb,0,none⟩)] W fun e w'=>Post p ts 0 (b+1) W (VL W.heap.size) res2 e w'):=hcl
   clear hcl hres2 hno
   have c4:=hst4.c4
   have f4:=hst4.fz 4
   go_wp2_with fail
   clear c4 f4
   have hst5:=hst4.setBlocks (b+1) ((b:Int)+1) (by omega)
   have hext5:Ext p.pb w (w4.setCell ⟨p.pb,4,none⟩ (.int .i64 ((b:Int)+1))):=hext4.set 4 _
   have hx5:Ext p.pb w4 (w4.setCell ⟨p.pb,4,none⟩ (.int .i64 ((b:Int)+1))):=(Ext.refl _ _).set 4 _
   have hsz5:(w4.setCell ⟨p.pb,4,none⟩ (.int .i64 ((b:Int)+1))).heap.size=w4.heap.size:=by simp
   have hv5:=VX.ext hx5 (by omega) hv4
   have hsb5:=(hx5.block sb hls4 (by omega)).trans hsb4
   have hrb5:=(hx5.block rb (by omega) (by omega)).trans hrb4
   generalize w4.setCell ⟨p.pb,4,none⟩ (.int .i64 ((b:Int)+1))=w5 at hst5 hext5 hx5 hsz5 hv5 hsb5 hrb5 ⊢
   refine(HCL.out _ hst5).mono ?_
   intro e w6 hq
   clear hx5 hst4 hext4 hsb4 hrb4 hv4 hst5
   rcases res2 with er|⟨l,r3⟩
   ·obtain⟨ht,hx6⟩:=hq
    obtain⟨ab,h1,rfl,h2,h3⟩:=ht.out
    go_wp2_with fail
    refine⟨rfl,?_⟩
    rw[show blockS f code b m r=.error er by unfold blockS;simp only [HR.out,HSE.out,HR2.out,bind,Except.bind]]
    exact zt hext5 ht hx6
   ·obtain⟨v,rfl,hl,hst6,hx6⟩:=hq
    obtain⟨ao,cap,rfl⟩:=hl.shape
    have hls5:=zi hsb5
    have hsb6:=(hx6.block sb hls5 (by omega)).trans hsb5
    have hrb6:=(hx6.block rb (by omega) (by omega)).trans hrb5
    have hext6:=hext5.trans hx6
    have hv6:=VX.ext hx6 (by omega) hv5
    have hl6:VL (sb+1) l (.slice ao l.length cap) w6:=hl.base (by omega)
    clear hext5 hsb5 hrb5 hv5 hl hx6 hsz5
    have k5:w6.cell? ⟨sb,5,none⟩=some (.slice none 0 0):=za hsb6
    have z5:w6.frozen? ⟨sb,5,none⟩=false:=zg hsb6
    have c4:(w6.setCell ⟨sb,5,none⟩ (.slice ao l.length cap)).cell? ⟨p.pb,4,none⟩=some (.int .i64 ((b+1:Nat):Int)):=by
     rw[World.cell?_setCell_other w6 ⟨sb,5,none⟩ ⟨p.pb,4,none⟩ _ (by simp <;> omega)];exact hst6.c4
    have f4:(w6.setCell ⟨sb,5,none⟩ (.slice ao l.length cap)).frozen? ⟨p.pb,4,none⟩=false:=by simpa using hst6.fz 4
    go_upto_region 7 with fail
    clear k5 z5 c4 f4
    have hb7:Below sb w6 (w6.setCell ⟨sb,5,none⟩ (.slice ao l.length cap)):=zq (Below.refl _ _) zn 5 _
    have hst7:=(hst6.belowB hb7 (by omega)).setBlocks b (b:Int) rfl
    have hx7:Ext p.pb (w6.setCell ⟨sb,5,none⟩ (.slice ao l.length cap)) ((w6.setCell ⟨sb,5,none⟩ (.slice ao l.length cap)).setCell ⟨p.pb,4,none⟩ (.int .i64 (b:Int))):=(Ext.refl _ _).set 4 _
    have hxs:Ext sb w6 (w6.setCell ⟨sb,5,none⟩ (.slice ao l.length cap)):=(Ext.refl _ _).set 5 _
    have hext7:=(hext6.trans' (hb7.mono (by omega))).trans hx7
    have hsb7:=(hx7.block sb (by simpa using zi hsb6) (by omega)).trans (zw 5 (.slice ao l.length cap) hsb6)
    have hrb7:=(hx7.block rb (by simpa using zi hrb6) (by omega)).trans ((hb7.block rb hrs).trans hrb6)
    have hv7:=VX.ext hx7 (by omega) (VX.ext hxs (by omega) hv6)
    have hl7:=VL.ext hx7 (by omega) (VL.ext hxs (by omega) hl6)
    generalize (w6.setCell ⟨sb,5,none⟩ (.slice ao l.length cap)).setCell ⟨p.pb,4,none⟩ (.int .i64 (b:Int))=w7 at hst7 hx7 hext7 hsb7 hrb7 hv7 hl7 ⊢
    clear hb7 hx7 hxs hst6 hext6 hsb6 hrb6 hv6 hl6
    have ks:∀ i,w7.cell? ⟨sb,i,none⟩=(scells code (at' r) ⟨#[]⟩ (.pointer none) (.pointer (some ⟨bb,0,none⟩)) (.slice ao l.length cap) (.slice none 0 0))[i]?:=fun i=>za hsb7
    have kr:∀ i,w7.cell? ⟨rb,i,none⟩=(scells 0 0 ⟨#[]⟩ (.pointer none) (.pointer none) (.slice none 0 0) (.slice none 0 0))[i]?:=fun i=>za hrb7
    have zr:∀ i,w7.frozen? ⟨rb,i,none⟩=false:=fun i=>zg hrb7
    simp only [scells]at ks kr
    go_wp2_with fail
    refine bodyPost_ret (v:=.agg (scells code (at' r) (bs []) (.pointer none) (.pointer (some ⟨bb,0,none⟩)) (.slice ao l.length cap) (.slice none 0 0))) (by simp[results,Tryz.results147,go_sem,kr,scells,bs]) rfl ?_
    rw[show blockS f code b m r=.ok ([⟨code,at' r,[],[],x,l,[]⟩],r3) by unfold blockS;simp only [HR.out,HSE.out,HR2.out,bind,Except.bind]]
    refine⟨_,rfl,VS.node (Or.inl ⟨rfl,rfl⟩) (Or.inr ?_) (Or.inr ?_) (Or.inl ⟨rfl,rfl⟩),?_,?_⟩
    ·exact VX.base (VX.ext (b:=rb) (yq w7 rb _ _ _ _ _ _ _) (by omega) hv7) (by omega)
    ·exact VL.base (VL.ext (b:=rb) (yq w7 rb _ _ _ _ _ _ _) (by omega) hl7) (by omega)
    ·exact hst7.belowB (zN w7 rb _ _ _ _ _ _ _) (by omega)
    ·exact hext7.trans' ((zN w7 rb _ _ _ _ _ _ _).mono hrw)
  ·refine(zO hst3 m _ hy hse).mono ?_
   rintro e w4 ⟨ht,hx4⟩
   have HSE:Hid (Tp.want m r1=.error (3,at' r1)):=by unfold Hid Tp.want;rw[if_neg hse]
   clear hse
   obtain⟨ab,h1,rfl,h2,h3⟩:=ht.out
   go_wp2_with fail
   refine⟨rfl,?_⟩
   rw[show blockS f code b m r=.error (3,at' r1) by unfold blockS;simp only [HR.out,HSE.out,bind,Except.bind]]
   exact zt hext3 ht hx4
def VP (B:Nat) (l:List X) (v:Value) (w:World):Prop:=∃ ls:List Value,v=ls.headD (.pointer none)/\RepL w (fun b=>B<=b) l ls/\ls.length<=1
def VO (B:Nat) (l:List S) (v:Value) (w:World):Prop:=∃ cs,RepS w (fun b=>B<=b) l cs/\OwnS w (fun b=>B<=b) v l.length cs
theorem VP.ext {w w':World}{B b:Nat}(k:Ext b w w') (hb:b<B) {l:List X}{v:Value}(h:VP B l v w):VP B l v w':=by
 obtain⟨ls,h1,h2,h3⟩:=h;exact⟨ls,h1,RepL.ext k (by omega) h2,h3⟩
theorem VP.base {w:World}{B B':Nat}{l:List X}{v:Value}(h:VP B l v w) (hB:B'<=B):VP B' l v w:=by
 obtain⟨ls,h1,h2,h3⟩:=h;exact⟨ls,h1,RepL.mono (fun _ hi _=>⟨rfl,Nat.le_trans hB hi⟩) _ _ _ zn h2,h3⟩
theorem VO.ext {w w':World}{B b:Nat}(k:Ext b w w') (hb:b<B) {l:List S}{v:Value}(h:VO B l v w):VO B l v w':=by
 obtain⟨cs,h1,h2⟩:=h
 have hw:∀ i,B<=i->i<w.heap.size->w'.heap[i]?=w.heap[i]?/\B<=i:=fun i hi hl=>⟨k.block i hl (by omega),hi⟩
 exact⟨cs,h1.mono' hw,h2.mono hw⟩
theorem VO.base {w:World}{B B':Nat}{l:List S}{v:Value}(h:VO B l v w) (hB:B'<=B):VO B' l v w:=by
 obtain⟨cs,h1,h2⟩:=h
 have hw:∀ i,B<=i->i<w.heap.size->w.heap[i]?=w.heap[i]?/\B'<=i:=fun i hi _=>⟨rfl,Nat.le_trans hB hi⟩
 exact⟨cs,h1.mono' hw,h2.mono hw⟩
theorem VP.ptr {B:Nat}{l:List X}{v:Value}{w:World}(h:VP B l v w):∃ ia,v=.pointer ia:=by
 obtain⟨ls,h1,h2,h3⟩:=h
 cases l with
 | nil=>rw[RepL]at h2;subst h2;exact⟨none,h1⟩
 | cons x xs =>
  obtain⟨code,pos,nn,mod,name,op,left,right,args⟩:=x
  rw[RepL]at h2
  obtain⟨b,av,_,_,_,vs',q,_⟩:=h2
  subst q
  exact⟨_,h1⟩
theorem VO.shape {B:Nat}{l:List S}{v:Value}{w:World}(h:VO B l v w):∃ ta tc,v=.slice ta l.length tc:=by
 obtain⟨cs,_,h2⟩:=h
 rcases h2 with⟨rfl,h0⟩|⟨g,cap,cur,rfl,_⟩
 ·rw[h0];exact⟨_,_,rfl⟩
 ·exact⟨_,_,rfl⟩
theorem VS.mk' {w:World}{B code pos:Nat}{name:List UInt8}{index value:List X}{thn els:List S}{iv vv tv ev:Value}(hi:VP B index iv w) (hv:VP B value vv w) (ht:VO B thn tv w) (he:VO B els ev w) :
  VS B [⟨code,pos,name,index,value,thn,els⟩] (.agg (scells code pos (bs name) iv vv tv ev)) w:=by
 obtain⟨ia,rfl⟩:=hi.ptr
 obtain⟨va,rfl⟩:=hv.ptr
 obtain⟨ta,tc,rfl⟩:=ht.shape
 obtain⟨ea,ec,rfl⟩:=he.shape
 obtain⟨ls,l0,l1,l2⟩:=hi
 obtain⟨vs,v0,v1,v2⟩:=hv
 obtain⟨tcs,t1,t2⟩:=ht
 obtain⟨ecs,e1,e2⟩:=he
 refine⟨code,pos,name,ia,va,ta,ea,_,tc,_,ec,rfl,?_⟩
 rw[RepS]
 exact⟨_,_,ls,vs,tcs,ecs,[],by rw[<-l0,<-v0];simp[scells],l1,l2,v1,v2,t1,t2,e1,e2,by rw[RepS]⟩
theorem VS.inv {w:World}{B code pos:Nat}{name:List UInt8}{index value:List X}{thn els:List S}{v:Value}(h:VS B [⟨code,pos,name,index,value,thn,els⟩] v w) :
  ∃ ia va ta tc ea ec,v=.agg (scells code pos (bs name) (.pointer ia) (.pointer va) (.slice ta thn.length tc) (.slice ea els.length ec))/\VP B index (.pointer ia) w/\VP B value (.pointer va) w/\VO B thn (.slice ta thn.length tc) w/\VO B els (.slice ea els.length ec) w:=by
 obtain⟨c,p,n,ia,va,ta,ea,tn,tc,en,ec,h1,h2⟩:=h
 rw[RepS]at h2
 obtain⟨tv,ev,ls,vs,tcs,ecs,cs',q,r1,r2,r3,r4,r5,r6,r7,r8,r9⟩:=h2
 simp only [scells,List.cons_append,List.nil_append,List.cons.injEq]at q
 obtain⟨q0,q1,q2,q3,q4,q5,q6,q7⟩:=q
 subst q5;subst q6
 have ho1:VO B thn (.slice ta tn tc) w:=⟨tcs,r5,r6⟩
 have ho2:VO B els (.slice ea en ec) w:=⟨ecs,r7,r8⟩
 have k1:tn=thn.length:=by obtain⟨_,_,e⟩:=ho1.shape;cases e;rfl
 have k2:en=els.length:=by obtain⟨_,_,e⟩:=ho2.shape;cases e;rfl
 subst k1;subst k2
 refine⟨ia,va,ta,tc,ea,ec,?_,⟨ls,q3,r1,r2⟩,⟨vs,q4,r3,r4⟩,ho1,ho2⟩
 rw[h1]
 simp only [scells,q0,q1,q2]
theorem VL.vo {w:World}{B:Nat}{l:List S}{v:Value}(h:VL B l v w):VO B l v w:=h.own
theorem VO.nil (B:Nat) (w:World):VO B [] (.slice none 0 0) w:=⟨[],by rw[RepS],Or.inl ⟨rfl,rfl⟩⟩
theorem VO.one {w:World}{B code pos:Nat}{name:List UInt8}{s:List S}{ia va ta ea:Option Addr}{tn tc en ec:Nat}(h:VS B s (.agg (scells code pos (bs name) (.pointer ia) (.pointer va) (.slice ta tn tc) (.slice ea en ec))) w) (hB:B<=w.heap.size) (hs:s.length=1) :
  VO B s (.slice (some ⟨w.heap.size,0,none⟩) 1 1) (w.alloc (.cells (scells code pos (bs name) (.pointer ia) (.pointer va) (.slice ta tn tc) (.slice ea en ec)) 139)):=by
 obtain⟨c',p',n',ia',va',ta',ea',tn',tc',en',ec',h1,h2⟩:=h
 rw[<-Value.agg.inj h1]at h2
 refine⟨_,h2.mono' (fun i hi hl=>⟨Below.heap_alloc _ _ _ hl,hi⟩),?_⟩
 rw[hs]
 exact Or.inr ⟨w.heap.size,1,_,rfl,hB,zk _ _,Nat.le_refl _,by unfold maxLen;omega,rfl,rfl⟩
def withElse (e:List S) (l:List S):List S:=l.map fun s=>⟨s.code,s.pos,s.name,s.index,s.value,s.thn,e⟩
def branchT (f b:Nat) (s:List S) (r3:List Tok):Except Tp.Er (List S× List Tok) :=
 if tx r3=Tp.wElsif then do
  let (e,r4) <- Tp.sx f 3 (b+1) r3
  .ok (withElse e s,r4)
 else if tx r3=Tp.wElse then do
  let (e,r4) <- Tp.sx f 0 (b+1) (stp r3)
  .ok (withElse e s,r4)
 else .ok (s,r3)
theorem qh {f b:Nat}{r:List Tok}{er:Tp.Er}(h:blockS f 2 b Tp.wThen r=.error er):Tp.sx (f+1) 3 b r=.error er:=by
 unfold blockS at h
 rw[Tp.sx]
 simp only [show ¬(3=0) by omega,show ¬(3=1) by omega,show ¬(3=2) by omega,if_false,bind,Except.bind]at h ⊢
 cases h1:Tp.ex f 0 0 0 [] (stp r) with
 | error e=>rw[h1]at h;exact h
 | ok v =>
  rw[h1]at h;simp only at h ⊢
  cases h2:Tp.want Tp.wThen v.2 with
  | error e=>rw[h2]at h;exact h
  | ok r2 =>
   rw[h2]at h;simp only at h ⊢
   cases h3:Tp.sx f 0 (b+1) r2 with
   | error e=>rw[h3]at h;exact h
   | ok u=>rw[h3]at h;cases h
theorem sx3_ok {f b:Nat}{r r3:List Tok}{s:List S}(h:blockS f 2 b Tp.wThen r=.ok (s,r3)):Tp.sx (f+1) 3 b r=branchT f b s r3/\(∃ x l,s=[⟨2,at' r,[],[],x,l,[]⟩])/\b+1<=10:=by
 unfold blockS at h
 rw[Tp.sx]
 simp only [show ¬(3=0) by omega,show ¬(3=1) by omega,show ¬(3=2) by omega,if_false,bind,Except.bind]at h ⊢
 cases h1:Tp.ex f 0 0 0 [] (stp r) with
 | error e=>rw[h1]at h;cases h
 | ok v =>
  rw[h1]at h;simp only at h ⊢
  cases h2:Tp.want Tp.wThen v.2 with
  | error e=>rw[h2]at h;cases h
  | ok r2 =>
   rw[h2]at h;simp only at h ⊢
   cases h3:Tp.sx f 0 (b+1) r2 with
   | error e=>rw[h3]at h;cases h
   | ok u =>
    rw[h3]at h;simp only [Except.ok.injEq,Prod.mk.injEq]at h
    obtain⟨rfl,rfl⟩:=h
    refine⟨?_,⟨v.1,u.1,rfl⟩,?_⟩
    ·unfold branchT withElse
     by_cases c1:tx u.2=Tp.wElsif
     ·simp only [c1,if_true,bind,Except.bind];cases Tp.sx f 3 (b+1) u.2 <;> rfl
     ·by_cases c2:tx u.2=Tp.wElse
      ·simp only [c2,if_true,bind,Except.bind,show ¬(Tp.wElse=Tp.wElsif) by decide,if_false];cases Tp.sx f 0 (b+1) (stp u.2) <;> rfl
      ·simp only [c1,c2,if_false]
    ·cases f with
     | zero=>cases h3
     | succ k =>
      rw[Tp.sx]at h3
      by_cases hb:10<b+1
      ·simp[hb]at h3
      ·omega
def VPd (D:Nat->Prop) (l:List X) (v:Value) (w:World):Prop:=∃ ls:List Value,v=ls.headD (.pointer none)/\RepL w D l ls/\ls.length<=1
def VOd (D:Nat->Prop) (l:List S) (v:Value) (w:World):Prop:=∃ cs,RepS w D l cs/\OwnS w D v l.length cs
theorem VPd.mono {w w':World}{D D':Nat->Prop}(hw:∀ b,D b->b<w.heap.size->w'.heap[b]?=w.heap[b]?/\D' b) {l:List X}{v:Value}(h:VPd D l v w):VPd D' l v w':=by
 obtain⟨ls,h1,h2,h3⟩:=h;exact⟨ls,h1,RepL.mono hw _ _ _ zn h2,h3⟩
theorem VOd.mono {w w':World}{D D':Nat->Prop}(hw:∀ b,D b->b<w.heap.size->w'.heap[b]?=w.heap[b]?/\D' b) {l:List S}{v:Value}(h:VOd D l v w):VOd D' l v w':=by
 obtain⟨cs,h1,h2⟩:=h;exact⟨cs,h1.mono' hw,h2.mono hw⟩
theorem VPd.ext {w w':World}{D:Nat->Prop}{b:Nat}(k:Ext b w w') (hb:¬D b) {l:List X}{v:Value}(h:VPd D l v w):VPd D l v w' :=
 h.mono (fun i hi hl=>⟨k.block i hl (fun e=>hb (e ▸ hi)),hi⟩)
theorem VOd.ext {w w':World}{D:Nat->Prop}{b:Nat}(k:Ext b w w') (hb:¬D b) {l:List S}{v:Value}(h:VOd D l v w):VOd D l v w' :=
 h.mono (fun i hi hl=>⟨k.block i hl (fun e=>hb (e ▸ hi)),hi⟩)
theorem VP.d {B C:Nat}{l:List X}{v:Value}{w:World}(h:VP B l v w) (e:B=C):VPd (fun i=>C<=i) l v w:=by subst e;exact h
theorem VO.d {B C:Nat}{l:List S}{v:Value}{w:World}(h:VO B l v w) (e:B=C):VOd (fun i=>C<=i) l v w:=by subst e;exact h
theorem VPd.p {B:Nat}{D:Nat->Prop}{l:List X}{v:Value}{w:World}(h:VPd D l v w) (e:∀ i,D i->B<=i):VP B l v w:=h.mono (fun i hi _=>⟨rfl,e i hi⟩)
theorem VOd.o {B:Nat}{D:Nat->Prop}{l:List S}{v:Value}{w:World}(h:VOd D l v w) (e:∀ i,D i->B<=i):VO B l v w:=h.mono (fun i hi _=>⟨rfl,e i hi⟩)
theorem sx3_len {f b:Nat}{r r4:List Tok}{s:List S}(h:Tp.sx f 3 b r=.ok (s,r4)):s.length=1:=by
 cases f with
 | zero=>cases h
 | succ f =>
  rcases hb:blockS f 2 b Tp.wThen r with er|⟨s',r3⟩
  ·rw[qh hb]at h;cases h
  ·obtain⟨h1,⟨x,l,rfl⟩,_⟩:=sx3_ok hb
   rw[h1]at h
   unfold branchT withElse at h
   by_cases c1:tx r3=Tp.wElsif
   ·simp only [c1,if_true,bind,Except.bind]at h
    cases hq:Tp.sx f 3 (b+1) r3 with
    | error e=>rw[hq]at h;cases h
    | ok u=>rw[hq]at h;simp only [Except.ok.injEq,Prod.mk.injEq]at h;rw[<-h.1];rfl
   ·by_cases c2:tx r3=Tp.wElse
    ·simp only [c2,if_true,bind,Except.bind,show ¬(Tp.wElse=Tp.wElsif) by decide,if_false]at h
     cases hq:Tp.sx f 0 (b+1) (stp r3) with
     | error e=>rw[hq]at h;cases h
     | ok u=>rw[hq]at h;simp only [Except.ok.injEq,Prod.mk.injEq]at h;rw[<-h.1];rfl
    ·simp only [c1,c2,if_false,Except.ok.injEq,Prod.mk.injEq]at h;rw[<-h.1];rfl
theorem qU {p:Ps}{ts:List Tok}{f:Nat}(hL:LevelC p ts f) (hS:StmtsC p ts f) (hB:BranchC p ts f):BranchC p ts (f+1):=by
 intro w r b h hb hn
 have hpl:=zc h.c0
 have hbi:(b:Int)<=10:=by omega
 have hn0:blockS f 2 b Tp.wThen r≠.error (99,0):=fun e=>hn (qh e)
 have hcall:=fun W (hW:St W p ts r 0 b)=>xR hL hS hW hb 2 Tp.wThen (bs Tp.wThen) rfl hn0
 have HN:Hid (Tp.sx (f+1) 3 b r≠.error (99,0)):=hn
 have HST:Hid (StmtsC p ts f):=hS
 have HBR:Hid (BranchC p ts f):=hB
 generalize hres:blockS f 2 b Tp.wThen r=res at hcall
 have HR:Hid (blockS f 2 b Tp.wThen r=res):=hres
 have HC:Hid (∀ W,St W p ts r 0 b->Calls Tryz.prog 147 #[.pointer (some ⟨p.pb,0,none⟩),.int .i64 2,.string ⟨#[116,104,101,110]⟩] W fun e w'=>Post p ts 0 b W (VS W.heap.size) res e w'):=hcall
 clear hcall hn hn0 hL hS hB hres
 go_enter Tryz.func148,Tryz.ntmps148
 go_wp2_with fail
 have hba:∀(W:World) ob,Below W.heap.size W (W.alloc ob):=fun W ob=>zb _ _
 refine(HC.out _ (h.below (hba _ _))).mono ?_
 intro e w1 hq
 have HA:Hid (∀(W:World) ob,Below W.heap.size W (W.alloc ob)):=hba
 clear hba
 rcases res with er|⟨s,r3⟩
 ·obtain⟨ht,hx1⟩:=hq
  obtain⟨ab,h1,rfl,h2,h3⟩:=ht.out
  go_wp2_with fail
  refine⟨rfl,?_⟩
  rw[qh HR.out]
  exact zt (Ext.below (HA.out _ _)) ht hx1
 ·obtain⟨v,rfl,hv,hst1,hx1⟩:=hq
  obtain⟨hspec,⟨x,l,rfl⟩,hb10⟩:=sx3_ok HR.out
  have HSP:Hid (Tp.sx (f+1) 3 b r=branchT f b [⟨2,at' r,[],[],x,l,[]⟩] r3):=hspec
  clear hspec
  obtain⟨ia,va,ta,tc,ea,ec,rfl,hvi,hvv,hvt,hve⟩:=hv.inv
  have hrb1:w1.heap[w.heap.size]?=some (.cells (scells 0 0 ⟨#[]⟩ (.pointer none) (.pointer none) (.slice none 0 0) (.slice none 0 0)) 139 (0,0)):=(hx1.block _ (by simp) (by omega)).trans (zk _ _)
  have hext1:Ext p.pb w w1:=(Ext.below (HA.out _ _)).trans hx1
  have hsz1:=zi hrb1
  clear hx1 hv
  have c4:=hst1.c4
  have f4:=hst1.fz 4
  have hpl1:=zc c4
  simp only [scells]
  go_wp2_with fail
  clear c4 f4
  obtain⟨rb,hrb⟩:∃ rb,rb=w.heap.size:=⟨_,rfl⟩
  obtain⟨sb,hsb⟩:∃ sb,sb=w1.heap.size:=⟨_,rfl⟩
  have hkeep:∀ ob i,rb+1<=i->i<w1.heap.size->((w1.setCell ⟨p.pb,4,none⟩ (.int .i64 ((b:Int)+1))).alloc ob).heap[i]?=w1.heap[i]?/\(rb+1<=i/\i≠sb):=by
   intro ob i h1 h2
   exact⟨(Below.heap_alloc _ _ _ (by simpa using h2)).trans (Below.heap_setCell _ _ _ _ (by simp;omega)),h1,by omega⟩
  have hsw:(w1.setCell ⟨p.pb,4,none⟩ (.int .i64 ((b:Int)+1))).heap.size=sb:=by rw[hsb];simp
  obtain⟨w2,hw2⟩:∃ w2,w2=(w1.setCell ⟨p.pb,4,none⟩ (.int .i64 ((b:Int)+1))).alloc (.cells #[.int .i64 2,.int .i64 (at' r:Int),.string (bs []),.pointer ia,.pointer va,.slice ta l.length tc,.slice ea 0 ec] 139):=⟨_,rfl⟩
  have hst2:St w2 p ts r3 0 (b+1):=by rw[hw2];exact(hst1.setBlocks (b+1) ((b:Int)+1) (by omega)).below (HA.out _ _)
  have hext2:Ext p.pb w w2:=by rw[hw2];exact(hext1.set 4 _).trans (Ext.below (HA.out _ _))
  have hrb2:w2.heap[rb]?=some (.cells (scells 0 0 ⟨#[]⟩ (.pointer none) (.pointer none) (.slice none 0 0) (.slice none 0 0)) 139 (0,0)):=by
   rw[hw2,hrb];exact(Below.heap_alloc _ _ _ (by simpa using hsz1)).trans ((Below.heap_setCell _ _ _ _ (by simp;omega)).trans hrb1)
  have hsb2:w2.heap[sb]?=some (.cells (scells 2 (at' r) (bs []) (.pointer ia) (.pointer va) (.slice ta l.length tc) (.slice ea 0 ec)) 139 (0,0)):=by
   rw[hw2,<-hsw];exact zk _ _
  have hk2:∀ i,rb+1<=i->i<w1.heap.size->w2.heap[i]?=w1.heap[i]?/\(rb+1<=i/\i≠sb):=by rw[hw2];exact hkeep _
  have hdi:VPd (fun i=>rb+1<=i/\i≠sb) [] (.pointer ia) w2:=VPd.mono hk2 (hvi.d (by rw[hrb];simp))
  have hdv:VPd (fun i=>rb+1<=i/\i≠sb) x (.pointer va) w2:=VPd.mono hk2 (hvv.d (by rw[hrb];simp))
  have hdt:VOd (fun i=>rb+1<=i/\i≠sb) l (.slice ta l.length tc) w2:=VOd.mono hk2 (hvt.d (by rw[hrb];simp))
  have hde:VOd (fun i=>rb+1<=i/\i≠sb) [] (.slice ea 0 ec) w2:=VOd.mono hk2 (hve.d (by rw[hrb];simp))
  rw[<-hw2,<-hrb,<-hsb]
  have hps:p.pb<rb:=by omega
  have hrs:rb<sb:=by omega
  have hrw:w.heap.size<=rb:=by omega
  clear hkeep hk2 hvi hvv hvt hve hst1 hext1 hrb1 hsz1 hsw hw2 hsb hrb hpl1
  refine(yy hst2 Tp.wElsif _ rfl).mono ?_
  rintro e w3 ⟨rfl,hb3⟩
  have hst3:=hst2.below hb3
  have hext3:=hext2.trans (Ext.below hb3)
  have hrb3:=(hb3.block rb (zi hrb2)).trans hrb2
  have hsb3:=(hb3.block sb (zi hsb2)).trans hsb2
  have hw3:∀ i,(rb+1<=i/\i≠sb)->i<w2.heap.size->w3.heap[i]?=w2.heap[i]?/\(rb+1<=i/\i≠sb):=fun i hi hl=>⟨hb3.block i hl,hi⟩
  have hdi3:=hdi.mono hw3
  have hdv3:=hdv.mono hw3
  have hdt3:=hdt.mono hw3
  have hde3:=hde.mono hw3
  clear hst2 hext2 hrb2 hsb2 hdi hdv hdt hde hw3 hb3
  go_upto_if 14 with fail
  go_cut [] (fun wc=>∃(els:List S) (ea':Option Addr) (ec':Nat) (r4:List Tok),St wc p ts r4 0 (b+1)/\Ext p.pb w wc /\
   wc.heap[rb]?=some (.cells (scells 0 0 ⟨#[]⟩ (.pointer none) (.pointer none) (.slice none 0 0) (.slice none 0 0)) 139 (0,0)) /\
   wc.heap[sb]?=some (.cells (scells 2 (at' r) (bs []) (.pointer ia) (.pointer va) (.slice ta l.length tc) (.slice ea' els.length ec')) 139 (0,0)) /\
   VPd (fun i=>rb+1<=i/\i≠sb) [] (.pointer ia) wc/\VPd (fun i=>rb+1<=i/\i≠sb) x (.pointer va) wc/\VOd (fun i=>rb+1<=i/\i≠sb) l (.slice ta l.length tc) wc /\
   VOd (fun i=>rb+1<=i/\i≠sb) els (.slice ea' els.length ec') wc/\Tp.sx (f+1) 3 b r=.ok ([⟨2,at' r,[],[],x,l,els⟩],r4))
  case first =>
   by_cases hei:tx r3=Tp.wElsif
   ·have hdec:=decide_eq_true hei
    have HE:Hid (tx r3=Tp.wElsif):=hei
    clear hei
    have hno:Tp.sx f 3 (b+1) r3≠.error (99,0):=by
     intro e;apply HN.out;rw[HSP.out];unfold branchT;rw[if_pos HE.out,e];rfl
    have hcl:=HBR.out w3 r3 (b+1) hst3 hb10 hno
    generalize hres2:Tp.sx f 3 (b+1) r3=res2 at hcl
    have HR2:Hid (Tp.sx f 3 (b+1) r3=res2):=hres2
    have HCL:Hid (Calls Tryz.prog 148 #[.pointer (some ⟨p.pb,0,none⟩)] w3 fun e w'=>Post p ts 0 (b+1) w3 (VS w3.heap.size) res2 e w'):=hcl
    clear hcl hres2 hno
    go_wp2_with fail
    refine HCL.out.mono ?_
    intro e w4 hq
    rcases res2 with er|⟨els,r4⟩
    ·obtain⟨ht,hx4⟩:=hq
     obtain⟨ab,h1,rfl,h2,h3⟩:=ht.out
     go_wp2_with fail
     refine⟨rfl,?_⟩
     rw[HSP.out,show branchT f b [⟨2,at' r,[],[],x,l,[]⟩] r3=.error er by unfold branchT;rw[if_pos HE.out,HR2.out];rfl]
     exact zt hext3 ht hx4
    ·obtain⟨v,rfl,hv,hst4,hx4⟩:=hq
     have hlen:=sx3_len HR2.out
     obtain⟨ecode,epos,ename,eia,eva,eta,eea,etn,etc,een,eec,rfl,hvr⟩:=hv
     have hone:=VO.one (s:=els) ⟨ecode,epos,ename,eia,eva,eta,eea,etn,etc,een,eec,rfl,hvr⟩ hx4.size hlen
     have hls3:=zi hsb3
     have hrb4:=(hx4.block rb (zi hrb3) (by omega)).trans hrb3
     have hsb4:=(hx4.block sb hls3 (by omega)).trans hsb3
     have hls4:=zi hsb4
     have hext4:=hext3.trans hx4
     have hdi4:=hdi3.ext hx4 (by omega)
     have hdv4:=hdv3.ext hx4 (by omega)
     have hdt4:=hdt3.ext hx4 (by omega)
     clear hdi3 hdv3 hdt3 hde3 hext3 hst3 hx4 hrb3 hsb3 hvr
     have k6:w4.cell? ⟨sb,6,none⟩=some (.slice ea 0 ec):=za hsb4
     have z6:w4.frozen? ⟨sb,6,none⟩=false:=zg hsb4
     simp only [scells]
     go_wp2_with fail
     go_meet
     case rel =>
      have hba4:=HA.out w4 (.cells #[.int .i64 (ecode:Int),.int .i64 (epos:Int),.string (bs ename),.pointer eia,.pointer eva,.slice eta etn etc,.slice eea een eec] 139)
      rw[<-World.setCell_alloc_past (w:=w4) (.cells #[.int .i64 (ecode:Int),.int .i64 (epos:Int),.string (bs ename),.pointer eia,.pointer eva,.slice eta etn etc,.slice eea een eec] 139) sb 6 (.slice (some ⟨w4.heap.size,0,none⟩) 1 1) hls4]
      simp only [scells]at hone
      have hst5:=hst4.below hba4
      have hext5:=hext4.trans (Ext.below hba4)
      have hrb5:=(hba4.block rb (by omega)).trans hrb4
      have hsb5:=(hba4.block sb hls4).trans hsb4
      have hdi5:=hdi4.ext (b:=p.pb) (Ext.below hba4) (by omega)
      have hdv5:=hdv4.ext (b:=p.pb) (Ext.below hba4) (by omega)
      have hdt5:=hdt4.ext (b:=p.pb) (Ext.below hba4) (by omega)
      generalize w4.alloc (.cells #[.int .i64 (ecode:Int),.int .i64 (epos:Int),.string (bs ename),.pointer eia,.pointer eva,.slice eta etn etc,.slice eea een eec] 139)=w5 at hone hst5 hext5 hrb5 hsb5 hdi5 hdv5 hdt5 ⊢
      have hbS:Below sb w5 (w5.setCell ⟨sb,6,none⟩ (.slice (some ⟨w4.heap.size,0,none⟩) 1 1)):=zq (Below.refl _ _) zn 6 _
      have hxS:Ext sb w5 (w5.setCell ⟨sb,6,none⟩ (.slice (some ⟨w4.heap.size,0,none⟩) 1 1)):=(Ext.refl _ _).set 6 _
      have hone':VOd (fun i=>rb+1<=i/\i≠sb) els (.slice (some ⟨w4.heap.size,0,none⟩) els.length 1) w5:=by
       rw[hlen];exact VOd.mono (D:=fun i=>w3.heap.size<=i) (fun i hi _=>⟨rfl,by omega⟩) (hone.d rfl)
      refine⟨els,some ⟨w4.heap.size,0,none⟩,1,r4,hst5.belowB hbS (by omega),hext5.trans' (hbS.mono (by omega)),(hbS.block rb hrs).trans hrb5,?_,hdi5.ext hxS (by omega),hdv5.ext hxS (by omega),hdt5.ext hxS (by omega),hone'.ext hxS (by omega),?_⟩
      ·rw[hlen];exact zw 6 _ hsb5
      ·rw[HSP.out,show branchT f b [⟨2,at' r,[],[],x,l,[]⟩] r3=.ok ([⟨2,at' r,[],[],x,l,els⟩],r4) by unfold branchT;rw[if_pos HE.out,HR2.out];rfl]
   ·have hdec:=decide_eq_false hei
    have HE:Hid (¬tx r3=Tp.wElsif):=hei
    clear hei
    go_wp2_with fail
    refine(zH hst3 Tp.wElse _ rfl).mono ?_
    rintro e w4 ⟨rfl,hst4,hx4⟩
    have hls3:=zi hsb3
    have hrb4:=(hx4.block rb (zi hrb3) (by omega)).trans hrb3
    have hsb4:=(hx4.block sb hls3 (by omega)).trans hsb3
    have hls4:=zi hsb4
    have hext4:=hext3.trans hx4
    have hdi4:=hdi3.ext hx4 (by omega)
    have hdv4:=hdv3.ext hx4 (by omega)
    have hdt4:=hdt3.ext hx4 (by omega)
    have hde4:=hde3.ext hx4 (by omega)
    clear hdi3 hdv3 hdt3 hde3 hext3 hst3 hx4 hrb3 hsb3 hls3
    by_cases hel:tx r3=Tp.wElse
    ·have hdec2:=decide_eq_true hel
     rw[if_pos hel]at hst4
     have HL:Hid (tx r3=Tp.wElse):=hel
     clear hel
     have hno:Tp.sx f 0 (b+1) (stp r3)≠.error (99,0):=by
      intro e;apply HN.out;rw[HSP.out];unfold branchT;rw[if_neg HE.out,if_pos HL.out,e];rfl
     have hcl:=HST.out w4 (stp r3) (b+1) hst4 (by omega) hno
     generalize hres2:Tp.sx f 0 (b+1) (stp r3)=res2 at hcl
     have HR2:Hid (Tp.sx f 0 (b+1) (stp r3)=res2):=hres2
     have HCL:Hid (Calls Tryz.prog 62 #[.pointer (some ⟨p.pb,0,none⟩)] w4 fun e w'=>Post p ts 0 (b+1) w4 (VL w4.heap.size) res2 e w'):=hcl
     clear hcl hres2 hno
     go_wp2_with fail
     refine HCL.out.mono ?_
     intro e w5 hq
     rcases res2 with er|⟨els,r4⟩
     ·obtain⟨ht,hx5⟩:=hq
      obtain⟨ab,h1,rfl,h2,h3⟩:=ht.out
      go_wp2_with fail
      refine⟨rfl,?_⟩
      rw[HSP.out,show branchT f b [⟨2,at' r,[],[],x,l,[]⟩] r3=.error er by unfold branchT;rw[if_neg HE.out,if_pos HL.out,HR2.out];rfl]
      exact zt hext4 ht hx5
     ·obtain⟨v,rfl,hv,hst5,hx5⟩:=hq
      obtain⟨ao,cap,rfl⟩:=hv.shape
      have hrb5:=(hx5.block rb (zi hrb4) (by omega)).trans hrb4
      have hsb5:=(hx5.block sb hls4 (by omega)).trans hsb4
      have hext5:=hext4.trans hx5
      have hdi5:=hdi4.ext hx5 (by omega)
      have hdv5:=hdv4.ext hx5 (by omega)
      have hdt5:=hdt4.ext hx5 (by omega)
      have hone:VOd (fun i=>rb+1<=i/\i≠sb) els (.slice ao els.length cap) w5:=VOd.mono (D:=fun i=>w4.heap.size<=i) (fun i hi _=>⟨rfl,by omega⟩) (hv.vo.d rfl)
      clear hdi4 hdv4 hdt4 hde4 hext4 hst4 hx5 hrb4 hsb4 hv
      have k6:w5.cell? ⟨sb,6,none⟩=some (.slice ea 0 ec):=za hsb5
      have z6:w5.frozen? ⟨sb,6,none⟩=false:=zg hsb5
      go_wp2_with fail
      go_meet
      case rel =>
       have hbS:Below sb w5 (w5.setCell ⟨sb,6,none⟩ (.slice ao els.length cap)):=zq (Below.refl _ _) zn 6 _
       have hxS:Ext sb w5 (w5.setCell ⟨sb,6,none⟩ (.slice ao els.length cap)):=(Ext.refl _ _).set 6 _
       refine⟨els,ao,cap,r4,hst5.belowB hbS (by omega),hext5.trans' (hbS.mono (by omega)),(hbS.block rb hrs).trans hrb5,zw 6 _ hsb5,hdi5.ext hxS (by omega),hdv5.ext hxS (by omega),hdt5.ext hxS (by omega),hone.ext hxS (by omega),?_⟩
       rw[HSP.out,show branchT f b [⟨2,at' r,[],[],x,l,[]⟩] r3=.ok ([⟨2,at' r,[],[],x,l,els⟩],r4) by unfold branchT;rw[if_neg HE.out,if_pos HL.out,HR2.out];rfl]
    ·have hdec2:=decide_eq_false hel
     rw[if_neg hel]at hst4
     have HL:Hid (¬tx r3=Tp.wElse):=hel
     clear hel
     go_wp2_with fail
     go_meet
     case rel =>
      refine⟨[],ea,ec,r3,hst4,hext4,hrb4,hsb4,hdi4,hdv4,hdt4,hde4,?_⟩
      rw[HSP.out,show branchT f b [⟨2,at' r,[],[],x,l,[]⟩] r3=.ok ([⟨2,at' r,[],[],x,l,[]⟩],r3) by unfold branchT;rw[if_neg HE.out,if_neg HL.out]]
  case rest =>
   obtain⟨els,ea',ec',r4,hst,hext,hrbc,hsbc,hdi,hdv,hdt,hde,hspec⟩:=hcut
   have HSP2:Hid (Tp.sx (f+1) 3 b r=.ok ([⟨2,at' r,[],[],x,l,els⟩],r4)):=hspec
   clear hspec hdi3 hdv3 hdt3 hde3 hext3 hst3 hrb3 hsb3
   have c4:=hst.c4
   have f4:=hst.fz 4
   go_upto_region 8 with fail
   clear c4 f4
   have hx7:Ext p.pb wc (wc.setCell ⟨p.pb,4,none⟩ (.int .i64 (b:Int))):=(Ext.refl _ _).set 4 _
   have hst7:=hst.setBlocks b (b:Int) rfl
   have hext7:=hext.trans hx7
   have hsb7:=(hx7.block sb (zi hsbc) (by omega)).trans hsbc
   have hrb7:=(hx7.block rb (zi hrbc) (by omega)).trans hrbc
   have hdi7:=hdi.ext hx7 (by omega)
   have hdv7:=hdv.ext hx7 (by omega)
   have hdt7:=hdt.ext hx7 (by omega)
   have hde7:=hde.ext hx7 (by omega)
   generalize wc.setCell ⟨p.pb,4,none⟩ (.int .i64 (b:Int))=w7 at hx7 hst7 hext7 hsb7 hrb7 hdi7 hdv7 hdt7 hde7 ⊢
   clear hx7 hst hext hsbc hrbc hdi hdv hdt hde
   have ks:∀ i,w7.cell? ⟨sb,i,none⟩=(scells 2 (at' r) (bs []) (.pointer ia) (.pointer va) (.slice ta l.length tc) (.slice ea' els.length ec'))[i]?:=fun i=>za hsb7
   have kr:∀ i,w7.cell? ⟨rb,i,none⟩=(scells 0 0 ⟨#[]⟩ (.pointer none) (.pointer none) (.slice none 0 0) (.slice none 0 0))[i]?:=fun i=>za hrb7
   have zr:∀ i,w7.frozen? ⟨rb,i,none⟩=false:=fun i=>zg hrb7
   simp only [scells]at ks kr
   go_wp2_with fail
   refine bodyPost_ret (v:=.agg (scells (2:Nat) (at' r) (bs []) (.pointer ia) (.pointer va) (.slice ta l.length tc) (.slice ea' els.length ec'))) (by simp[results,Tryz.results148,go_sem,kr,scells]) rfl ?_
   rw[HSP2.out]
   have hxr:=yq w7 rb (.int .i64 2) (.int .i64 (at' r:Int)) (.string (bs [])) (.pointer ia) (.pointer va) (.slice ta l.length tc) (.slice ea' els.length ec')
   have hbr:=zN w7 rb (.int .i64 2) (.int .i64 (at' r:Int)) (.string (bs [])) (.pointer ia) (.pointer va) (.slice ta l.length tc) (.slice ea' els.length ec')
   refine⟨_,rfl,VS.mk' ?_ ?_ ?_ ?_,?_,?_⟩
   ·exact(hdi7.ext hxr (by omega)).p (fun i hi=>by omega)
   ·exact(hdv7.ext hxr (by omega)).p (fun i hi=>by omega)
   ·exact(hdt7.ext hxr (by omega)).o (fun i hi=>by omega)
   ·exact(hde7.ext hxr (by omega)).o (fun i hi=>by omega)
   ·exact hst7.belowB hbr (by omega)
   ·exact hext7.trans' (hbr.mono hrw)
end Go.Proofs.YtmocelfkmdpogaaGreatDoor
