import Derived.Test.YtmocelfkmdpogaaGreatDoorKWe
set_option maxRecDepth 100000
set_option maxHeartbeats 4000000
namespace Go.Proofs.YtmocelfkmdpogaaGreatDoor
open Go.RowKit
open Tp (Tok hd tx at' stp X S)
theorem Tryz.infoStmt:(Tryz.prog.info? 139).map (fun i=>(i.zero,i.size,i.bytes))=some (some (.agg #[.int .i64 0,.int .i64 0,.string ⟨#[]⟩,.pointer none,.pointer none,.slice none 0 0,.slice none 0 0]),7,96):=by kernel_rfl
theorem StmtC.mono {p:Ps}{ts:List Tok}{f g:Nat}(h:StmtC p ts g) (hf:f<=g):StmtC p ts f:=by
 intro w r b h1 h2 h4
 have e:=(Tp.sx_le hf 2 b r).eq rfl h4
 have:=h w r b h1 h2 (by rw[e];exact h4)
 rw[e]at this
 exact this
def Ends (r:List Tok):Prop:=tx r=Tp.wEnd\/tx r=Tp.wElsif\/tx r=Tp.wElse
theorem qi {f b:Nat}{r:List Tok}(h:Ends r):Tp.sx (f+1) 1 b r=.ok ([],r):=by
 unfold Ends at h
 rw[Tp.sx];simp only [show ¬(1=0) by omega,if_false,if_true,h]
theorem sx1_bad {f b:Nat}{r:List Tok}{er:Tp.Er}(h:¬Ends r) (h2:Tp.sx f 2 b r=.error er):Tp.sx (f+1) 1 b r=.error er:=by
 unfold Ends at h
 rw[Tp.sx];simp only [show ¬(1=0) by omega,if_false,if_true,h,h2,bind,Except.bind]
theorem sx1_ok {f b:Nat}{r r1:List Tok}{s:List S}(h:¬Ends r) (h2:Tp.sx f 2 b r=.ok (s,r1)):Tp.sx (f+1) 1 b r=addAll s (Tp.sx f 1 b r1):=by
 unfold Ends at h
 rw[Tp.sx];simp only [show ¬(1=0) by omega,if_false,if_true,h,h2,bind,Except.bind]
 cases Tp.sx f 1 b r1 with
 | error e=>rfl
 | ok v=>rfl
theorem RepS.grown {w w':World}{B:Nat}{v v':Value}{l:List S}{cs:List Value}(h:RepS w (fun b=>B<=b/\v.ownBlock≠some b) l cs) (hg:w.grownBy w' v.ownBlock) (hv:∀ g,v'.ownBlock=some g->v.ownBlock=some g\/w.heap.size<=g) :
  RepS w' (fun b=>B<=b/\v'.ownBlock≠some b) l cs:=by
 refine h.mono' (fun b hb hl=>⟨hg.block b hl (fun e=>hb.2 e.symm),hb.1,fun e=>?_⟩)
 rcases hv b e with h1|h1
 ·exact hb.2 h1
 ·omega
theorem RepS.of_new {w:World}{B C:Nat}{v:Value}{l:List S}{cs:List Value}(h:RepS w (fun b=>C<=b) l cs) (hB:B<=C) (hv:∀ g,v.ownBlock=some g->g<C):RepS w (fun b=>B<=b/\v.ownBlock≠some b) l cs :=
 h.mono' (fun b hb _=>⟨rfl,Nat.le_trans hB hb,fun e=>by have:=hv b e;omega⟩)
theorem RepS.alloc {w:World}{D:Nat->Prop}{l:List S}{cs:List Value}(h:RepS w D l cs) (ob:Obj):RepS (w.alloc ob) D l cs :=
 h.mono' (fun b hb hl=>⟨Below.heap_alloc w ob b hl,hb⟩)
theorem news7 (w:World) (v0 v1 v2 v3 v4 v5 v6:Value) (t:TypeId):∀ j u,[v0,v1,v2,v3,v4,v5,v6][j]?=some u->(w.alloc (.cells #[v0,v1,v2,v3,v4,v5,v6] t)).cell? ((⟨w.heap.size,0,none⟩:Addr).add j)=some u:=by
 intro j u hj
 rw[Addr.add_lit,za (zk _ _),Nat.zero_add]
 simpa using hj
theorem stmts_deep {p:Ps}{ts:List Tok}{w:World}{r:List Tok}{o b:Nat}(h:St w p ts r o b) (hb:10<b) :
  Calls Tryz.prog 62 #[.pointer (some ⟨p.pb,0,none⟩)] w fun e w'=>Thrown w.heap.size (4,at' r) e w'/\Ext p.pb w w':=by
 have c4:=h.c4
 have hb':(10:Int)<(b:Int):=by omega
 clear hb
 go_enter Tryz.func62,Tryz.ntmps62
 go_wp2_with fail
 clear c4
 refine(zX h 4).mono ?_
 rintro e w2 ⟨ht,hb2⟩
 obtain⟨ab,h1,rfl,h2,h3⟩:=ht.out
 go_wp2_with fail
 exact⟨rfl,ht,Ext.below hb2⟩
theorem stmts_some {p:Ps}{ts:List Tok}{f:Nat}(hT:StmtC p ts f) (hfb:f<=100000) {w:World}{r:List Tok}{b:Nat}(h:St w p ts r 0 b) (hb:b<=10) (hn:Tp.sx f 1 b r≠.error (99,0)) :
  Calls Tryz.prog 62 #[.pointer (some ⟨p.pb,0,none⟩)] w fun e w'=>Post p ts 0 b w (VL w.heap.size) (Tp.sx f 1 b r) e w':=by
 obtain⟨i0,hi,hz0,hz1,hz2⟩:=info_parts Tryz.infoStmt
 have hpl:=zc h.c0
 have c4:=h.c4
 have hb':¬(10:Int)<(b:Int):=by omega
 have HT:Hid (StmtC p ts f):=hT
 have HN:Hid (Tp.sx f 1 b r≠.error (99,0)):=hn
 clear hT hn
 go_enter Tryz.func62,Tryz.ntmps62
 go_wp2_with fail
 clear c4 hb'
 go_loopg [3] f (fun k v wr=>∃(l:List S) (cs:List Value) (r':List Tok),k<=f/\RepS wr (fun b=>w.heap.size<=b/\v.ownBlock≠some b) l cs/\wr.ownsRow w.heap.size 139 7 v l.length cs/\St wr p ts r' 0 b/\Ext p.pb w wr/\addAll l (Tp.sx k 1 b r')=Tp.sx f 1 b r/\l.length+k<=f)
 case atStart =>
  refine⟨[],[],r,Nat.le_refl _,by rw[RepS],World.ownsRow_nil _ _ _ _,h,Ext.refl _ _,?_,by simp⟩
  cases Tp.sx f 1 b r with
  | error e=>rfl
  | ok x=>rfl
 case round =>
  obtain⟨l,cs,r',hk,hrep,hown,hst,hext,hspec,hlen⟩:=hrel
  have HS:Hid (addAll l (Tp.sx gk 1 b r')=Tp.sx f 1 b r):=hspec
  obtain⟨ao,cap,hvv⟩:=zl hown
  subst hvv
  have hno1:Tp.sx gk 1 b r'≠.error (99,0):=by intro e;apply HN.out;rw[<-HS.out,e];rfl
  obtain⟨g,rfl⟩:∃ g,gk=g+1:=by
   cases gk with
   | zero=>exact absurd rfl hno1
   | succ k=>exact⟨k,rfl⟩
  clear hspec
  by_cases h1:tx r'=Tp.wEnd
  ·have d1:=decide_eq_true h1
   have H1:Hid (tx r'=Tp.wEnd):=h1
   clear h1
   go_wp2_with fail
   refine(yy hst Tp.wEnd _ rfl).mono ?_
   rintro e w5 ⟨rfl,hb5⟩
   have HE:Hid (Tp.sx (g+1) 1 b r'=.ok ([],r')):=qi (Or.inl H1.out)
   go_wp2_with fail
   go_ret
   rw[<-HS.out,HE.out]
   have hbel:Below wr.heap.size wr w5:=hb5
   exact⟨_,rfl,⟨cs,by simpa using hrep.mono' (fun i hi hl=>⟨hbel.block i hl,hi⟩),by simpa using zA hown (Ext.below (b:=p.pb) hbel) hpl⟩,hst.below hbel,hext.trans (Ext.below hbel)⟩
  ·have d1:=decide_eq_false h1
   have H1:Hid (¬tx r'=Tp.wEnd):=h1
   clear h1
   by_cases h2:tx r'=Tp.wElsif
   ·have d2:=decide_eq_true h2
    have H2:Hid (tx r'=Tp.wElsif):=h2
    clear h2
    go_wp2_with fail
    refine(yy hst Tp.wEnd _ rfl).mono ?_
    rintro e w5 ⟨rfl,hb5⟩
    go_wp2_with fail
    refine(yy (hst.below hb5) Tp.wElsif _ rfl).mono ?_
    rintro e w6 ⟨rfl,hb6⟩
    have HE:Hid (Tp.sx (g+1) 1 b r'=.ok ([],r')):=qi (Or.inr (Or.inl H2.out))
    go_wp2_with fail
    go_ret
    rw[<-HS.out,HE.out]
    have hbel:Below wr.heap.size wr w6:=hb5.trans (hb6.mono hb5.size)
    exact⟨_,rfl,⟨cs,by simpa using hrep.mono' (fun i hi hl=>⟨hbel.block i hl,hi⟩),by simpa using zA hown (Ext.below (b:=p.pb) hbel) hpl⟩,hst.below hbel,hext.trans (Ext.below hbel)⟩
   ·have d2:=decide_eq_false h2
    have H2:Hid (¬tx r'=Tp.wElsif):=h2
    clear h2
    by_cases h3:tx r'=Tp.wElse
    ·have d3:=decide_eq_true h3
     have H3:Hid (tx r'=Tp.wElse):=h3
     clear h3
     go_wp2_with fail
     refine(yy hst Tp.wEnd _ rfl).mono ?_
     rintro e w5 ⟨rfl,hb5⟩
     go_wp2_with fail
     refine(yy (hst.below hb5) Tp.wElsif _ rfl).mono ?_
     rintro e w6 ⟨rfl,hb6⟩
     go_wp2_with fail
     refine(yy ((hst.below hb5).below hb6) Tp.wElse _ rfl).mono ?_
     rintro e w7 ⟨rfl,hb7⟩
     have HE:Hid (Tp.sx (g+1) 1 b r'=.ok ([],r')):=qi (Or.inr (Or.inr H3.out))
     go_wp2_with fail
     go_ret
     rw[<-HS.out,HE.out]
     have hbel:Below wr.heap.size wr w7:=(hb5.trans (hb6.mono hb5.size)).trans (hb7.mono (Nat.le_trans hb5.size hb6.size))
     exact⟨_,rfl,⟨cs,by simpa using hrep.mono' (fun i hi hl=>⟨hbel.block i hl,hi⟩),by simpa using zA hown (Ext.below (b:=p.pb) hbel) hpl⟩,hst.below hbel,hext.trans (Ext.below hbel)⟩
    ·have d3:=decide_eq_false h3
     have HE:Hid (¬Ends r'):=by intro e;rcases e with e|e|e;exact H1.out e;exact H2.out e;exact h3 e
     clear h3
     go_wp2_with fail
     refine(yy hst Tp.wEnd _ rfl).mono ?_
     rintro e w5 ⟨rfl,hb5⟩
     go_wp2_with fail
     refine(yy (hst.below hb5) Tp.wElsif _ rfl).mono ?_
     rintro e w6 ⟨rfl,hb6⟩
     go_wp2_with fail
     refine(yy ((hst.below hb5).below hb6) Tp.wElse _ rfl).mono ?_
     rintro e w7 ⟨rfl,hb7⟩
     have hbel:Below wr.heap.size wr w7:=(hb5.trans (hb6.mono hb5.size)).trans (hb7.mono (Nat.le_trans hb5.size hb6.size))
     have hst7:=hst.below hbel
     have hext7:=hext.trans (Ext.below hbel)
     have hrep7:=hrep.mono' (fun i hi hl=>⟨hbel.block i hl,hi⟩)
     have hown7:=zA hown (Ext.below (b:=p.pb) hbel) hpl
     have hno2:Tp.sx g 2 b r'≠.error (99,0):=fun e=>hno1 (sx1_bad HE.out e)
     have hcl:=(HT.out.mono (f:=g) (by omega)) w7 r' b hst7 hb hno2
     generalize hres:Tp.sx g 2 b r'=res at hcl
     have HR:Hid (Tp.sx g 2 b r'=res):=hres
     have HCL:Hid (Calls Tryz.prog 96 #[.pointer (some ⟨p.pb,0,none⟩)] w7 fun e w'=>Post p ts 0 b w7 (VS w7.heap.size) res e w'):=hcl
     clear hcl hres hno1 hno2 hbel hb5 hb6 hb7 hst hext hrep hown hst7
     go_wp2_with fail
     refine HCL.out.mono ?_
     intro e w8 hq
     rcases res with er|⟨s,r1⟩
     ·obtain⟨ht,hx8⟩:=hq
      obtain⟨ab,q1,rfl,q2,q3⟩:=ht.out
      go_wp2_with fail
      refine⟨rfl,?_⟩
      rw[<-HS.out,sx1_bad HE.out HR.out]
      exact zt hext7 ht hx8
     ·obtain⟨v,rfl,hv,hst8,hx8⟩:=hq
      obtain⟨vc,vp,vn,ia,va,ta,ea,tn,tc,en,ec,hvv,hvr⟩:=hv
      subst hvv
      have hs1:s.length=1:=by have:=RepS.len _ _ hvr;simp[scells]at this;omega
      have hown8:=zA hown7 hx8 hpl
      have hrep8:=hrep7.mono' (fun i hi hl=>⟨hx8.block i hl (by omega),hi⟩)
      have hext8:=hext7.trans hx8
      have hsz7:=hext7.size
      have hsz8:=hext8.size
      have hob:∀ q,(Value.slice ao l.length cap).ownBlock=some q->q<w7.heap.size:=fun q hq=>(hown7.lt q hq).2
      have hu8:=hvr.of_new (v:=.slice ao l.length cap) hsz7 hob
      clear hvr hown7 hrep7 hext7 hx8
      simp only [scells]
      go_wp2_with (at_builtin;refine zC _ rfl _ _ 27 rfl w.heap.size 139 i0 (.agg #[.int .i64 0,.int .i64 0,.string ⟨#[]⟩,.pointer none,.pointer none,.slice none 0 0,.slice none 0 0]) 7 96 Tryz.underlying27 hi hz0 hz1 hz2 rfl (by decide) _ _ _ rfl (hown8.alloc _) ⟨w8.heap.size,0,none⟩ 1 1 [.int .i64 (vc:Int),.int .i64 (vp:Int),.string (bs vn),.pointer ia,.pointer va,.slice ta tn tc,.slice ea en ec] rfl rfl ?c1 ?c2 ?c3 ?c4 ?c5 ?_)
      case c1=>exact news7 w8 _ _ _ _ _ _ _ _
      case c2=>intro u hu;simp at hu;rcases hu with rfl|rfl|rfl|rfl|rfl|rfl|rfl <;> rfl
      case c3=>unfold maxLen;omega
      case c4=>omega
      case c5=>simp;omega
      ·intro v' w9 hown9 hgrow hwhere
       have hb9:Below w.heap.size w8 w9:=((Below.refl _ _).alloc hsz8 _).trans ((Below.refl _ _).grown hgrow (by simp;omega) (zL hown8))
       have hst9:=hst8.belowB hb9 hpl
       have hext9:Ext p.pb w w9:=hext8.trans' hb9
       have hr9:=RepS.app _ _ _ _ ((hrep8.alloc _).grown hgrow (by simpa using hwhere)) ((hu8.alloc _).grown hgrow (by simpa using hwhere))
       clear hgrow hwhere hown8 hrep8 hu8 hst8 hext8 hb9
       go_wp2_with fail
       go_roundg g
       case measure=>omega
       case rel =>
        refine⟨l++s,_,r1,by omega,hr9,?_,hst9,hext9,?_,by simp;omega⟩
        ·rw[List.length_append,hs1];exact hown9
        ·rw[<-HS.out,sx1_ok HE.out HR.out,ki]
theorem stmts_post {p:Ps}{ts:List Tok}{f:Nat}(hfb:f<=100000) (hT:StmtC p ts f):StmtsC p ts (f+1):=by
 intro w r b h hb hn
 by_cases hd:10<b
 ·rw[show Tp.sx (f+1) 0 b r=.error (4,at' r) by rw[Tp.sx];simp[hd]]
  exact stmts_deep h hd
 ·have e:Tp.sx (f+1) 0 b r=Tp.sx f 1 b r:=by rw[Tp.sx];simp[hd]
  rw[e]at hn ⊢
  exact stmts_some hT hfb h (by omega) hn
end Go.Proofs.YtmocelfkmdpogaaGreatDoor
namespace Go.Proofs.YtmocelfkmdpogaaGreatDoor
open Go.RowKit
open Tp (Tok hd tx at' stp X S G)
def gcells (name:ByteArray) (pos len:Int) (seen:Bool):Array Value:=#[.string name,.int .i64 pos,.int .i64 len,.bool seen]
def VG (g:G) (v:Value):Prop:=v=.agg (gcells (bs g.name) (g.pos:Int) (g.len:Int) g.seen)
theorem kP (w:World) (b:Nat) (v0 v1 v2 v3:Value):Below b w ((((w.setCell ⟨b,0,none⟩ v0).setCell ⟨b,1,none⟩ v1).setCell ⟨b,2,none⟩ v2).setCell ⟨b,3,none⟩ v3):=(zq (zq (zq (zq (Below.refl b w) zn 0 v0) zn 1 v1) zn 2 v2) zn 3 v3)
theorem qV (a b:List UInt8):(a == b)=decide (a=b):=by rw[Bool.eq_iff_iff,decide_eq_true_iff,beq_iff_eq]
theorem ui {w:World}{p:Ps}{ts r:List Tok}{o b:Nat}{res:Except Tp.Er (Nat× List Tok)}(h:St w p ts r o b) (hr:Hid (Tp.number 30 r=res)) :
  Calls Tryz.prog 95 #[.pointer (some ⟨p.pb,0,none⟩),.int .i64 30] w fun e w'=>Post p ts o b w (fun (n:Nat) v _=>v=.int .i64 (n:Int)) res e w':=by
 have:=ja h 30 (by omega) (by omega)
 rw[hr.out]at this
 exact this
theorem number_le {r r1:List Tok}{n:Nat}(h:Tp.number 30 r=.ok (n,r1)):n<=30:=by
 unfold Tp.number at h
 by_cases h1:(hd r).kind≠2
 ·simp[h1]at h
 ·by_cases h2:30<Tp.val (tx r)
  ·simp[h1,h2]at h
  ·simp[h1,h2]at h;omega
theorem jW {p:Ps}{ts:List Tok}{w:World}{r:List Tok}{o b:Nat}(h:St w p ts r o b) :
  Calls Tryz.prog 59 #[.pointer (some ⟨p.pb,0,none⟩)] w fun e w'=>Post p ts o b w (fun g v _=>VG g v) (Tp.global r) e w':=by
 have hpl:=zc h.c0
 go_enter Tryz.func59,Tryz.ntmps59
 go_wp2_with fail
 have hba:∀ ob,Below w.heap.size w (w.alloc ob):=fun ob=>zb _ _
 refine(zK (h.below (hba _))).mono ?_
 rintro e w1 ⟨rfl,hb1⟩
 have hst1:=(h.below (hba _)).below hb1
 have hrb1:w1.heap[w.heap.size]?=some (.cells (gcells ⟨#[]⟩ 0 0 false) 118 (0,0)):=(hb1.block _ (by simp)).trans (zk _ _)
 have hext1:Ext p.pb w w1:=(Ext.below (hba _)).trans (Ext.below hb1)
 obtain⟨rb,hrb⟩:∃ rb,rb=w.heap.size:=⟨_,rfl⟩
 rw[<-hrb]at hrb1 ⊢
 have hrw:w.heap.size<=rb:=by omega
 have hps:p.pb<rb:=by omega
 clear hba hb1 hrb
 have k1:w1.cell? ⟨rb,1,none⟩=some (.int .i64 0):=za hrb1
 have z1:w1.frozen? ⟨rb,1,none⟩=false:=zg hrb1
 go_wp2_with fail
 clear k1 z1
 have hbS:Below rb w1 (w1.setCell ⟨rb,1,none⟩ (.int .i64 ((hd r).pos:Int))):=zq (Below.refl _ _) zn 1 _
 have hst2:=hst1.belowB hbS (by omega)
 have hext2:=hext1.trans' (hbS.mono hrw)
 have hrb2:=zw 1 (.int .i64 ((hd r).pos:Int)) hrb1
 generalize w1.setCell ⟨rb,1,none⟩ (.int .i64 ((hd r).pos:Int))=w2 at hbS hst2 hext2 hrb2 ⊢
 clear hbS hst1 hext1 hrb1
 refine(ku hst2).mono ?_
 intro e w3 hq
 generalize hres:Tp.name r=res at hq
 have HR:Hid (Tp.name r=res):=hres
 clear hres
 rcases res with er|⟨nm,r1⟩
 ·obtain⟨ht,hx⟩:=hq
  obtain⟨ab,q1,rfl,q2,q3⟩:=ht.out
  go_wp2_with fail
  refine⟨rfl,?_⟩
  rw[show Tp.global r=.error er by unfold Tp.global;simp only [HR.out,bind,Except.bind]]
  exact zt hext2 ht hx
 obtain⟨v,rfl,rfl,hst3,hx3⟩:=hq
 have hrb3:=(hx3.block rb (zi hrb2) (by omega)).trans hrb2
 have hext3:=hext2.trans hx3
 clear hst2 hx3 hext2 hrb2
 have k0:w3.cell? ⟨rb,0,none⟩=some (.string ⟨#[]⟩):=za hrb3
 have z0:w3.frozen? ⟨rb,0,none⟩=false:=zg hrb3
 go_wp2_with fail
 clear k0 z0
 have hbS:Below rb w3 (w3.setCell ⟨rb,0,none⟩ (.string (bs nm))):=zq (Below.refl _ _) zn 0 _
 have hst4:=hst3.belowB hbS (by omega)
 have hext4:=hext3.trans' (hbS.mono hrw)
 have hrb4:=zw 0 (.string (bs nm)) hrb3
 generalize w3.setCell ⟨rb,0,none⟩ (.string (bs nm))=w4 at hbS hst4 hext4 hrb4 ⊢
 clear hbS hst3 hext3 hrb3
 refine(zH hst4 Tp.mStar _ rfl).mono ?_
 rintro e w5 ⟨rfl,hst5,hx5⟩
 have hrb5:=(hx5.block rb (zi hrb4) (by omega)).trans hrb4
 have hext5:=hext4.trans hx5
 clear hst4 hx5 hext4 hrb4
 have k3:w5.cell? ⟨rb,3,none⟩=some (.bool false):=za hrb5
 have z3:w5.frozen? ⟨rb,3,none⟩=false:=zg hrb5
 go_wp2_with fail
 clear k3 z3
 have hbS:Below rb w5 (w5.setCell ⟨rb,3,none⟩ (.bool (decide (tx r1=Tp.mStar)))):=zq (Below.refl _ _) zn 3 _
 have hst6:=hst5.belowB hbS (by omega)
 have hext6:=hext5.trans' (hbS.mono hrw)
 have hrb6:=zw 3 (.bool (decide (tx r1=Tp.mStar))) hrb5
 generalize w5.setCell ⟨rb,3,none⟩ (.bool (decide (tx r1=Tp.mStar)))=w6 at hbS hst6 hext6 hrb6 ⊢
 clear hbS hst5 hext5 hrb5
 generalize hr2:(if tx r1=Tp.mStar then stp r1 else r1)=r2 at hst6
 have HR2:Hid ((if tx r1=Tp.mStar then stp r1 else r1)=r2):=hr2
 clear hr2
 by_cases hc:tx r2=Tp.mColon
 rotate_left
 ·refine(zO hst6 Tp.mColon _ rfl hc).mono ?_
  rintro e w7 ⟨ht,hx⟩
  have HC:Hid (¬tx r2=Tp.mColon):=hc
  clear hc
  obtain⟨ab,q1,rfl,q2,q3⟩:=ht.out
  go_wp2_with fail
  refine⟨rfl,?_⟩
  rw[show Tp.global r=.error (3,at' r2) by unfold Tp.global;simp only [HR.out,HR2.out,bind,Except.bind,Tp.want,if_neg HC.out]]
  exact zt hext6 ht hx
 refine(zD hst6 Tp.mColon _ rfl hc).mono ?_
 rintro e w7 ⟨rfl,hst7,hx7⟩
 have HC:Hid (tx r2=Tp.mColon):=hc
 have hrb7:=(hx7.block rb (zi hrb6) (by omega)).trans hrb6
 have hext7:=hext6.trans hx7
 clear hc hst6 hx7 hext6 hrb6
 generalize hr3:stp r2=r3 at hst7
 have HR3:Hid (stp r2=r3):=hr3
 clear hr3
 go_wp2_with fail
 refine(zH hst7 Tp.wInt _ rfl).mono ?_
 rintro e w8 ⟨rfl,hst8,hx8⟩
 have hrb8:=(hx8.block rb (zi hrb7) (by omega)).trans hrb7
 have hext8:=hext7.trans hx8
 clear hst7 hx8 hext7 hrb7
 by_cases hi:tx r3=Tp.wInt
 ·have hdec:=decide_eq_true hi
  rw[if_pos hi]at hst8
  have HI:Hid (tx r3=Tp.wInt):=hi
  clear hi
  go_wp2_with fail
  clear hdec
  by_cases hs:tx (stp r3)=Tp.mSemi
  ·refine(zD hst8 Tp.mSemi _ rfl hs).mono ?_
   rintro e w9 ⟨rfl,hst9,hx9⟩
   have HS:Hid (tx (stp r3)=Tp.mSemi):=hs
   have hrb9:=(hx9.block rb (zi hrb8) (by omega)).trans hrb8
   have hext9:=hext8.trans hx9
   clear hs hst8 hx9 hext8 hrb8
   have kr:∀ i,w9.cell? ⟨rb,i,none⟩=(gcells (bs nm) (hd r).pos 0 (decide (tx r1=Tp.mStar)))[i]?:=fun i=>za hrb9
   have zr:∀ i,w9.frozen? ⟨rb,i,none⟩=false:=fun i=>zg hrb9
   simp only [gcells]at kr
   go_wp2_with fail
   refine bodyPost_ret (v:=.agg (gcells (bs nm) (at' r) (0) (decide (tx r1=Tp.mStar)))) (by simp[results,Tryz.results59,go_sem,kr,gcells,at']) rfl ?_
   rw[show Tp.global r=.ok (⟨nm,at' r,0,tx r1 == Tp.mStar⟩,stp (stp r3)) by unfold Tp.global;simp only [HR.out,HR2.out,HR3.out,bind,Except.bind,Tp.want,if_pos HC.out,if_pos HI.out,if_pos HS.out]]
   exact⟨_,rfl,by unfold VG;rw[qV] <;> rfl,hst9.belowB (kP w9 rb _ _ _ _) (by omega),hext9.trans' ((kP w9 rb _ _ _ _).mono hrw)⟩
  ·refine(zO hst8 Tp.mSemi _ rfl hs).mono ?_
   rintro e w9 ⟨ht,hx⟩
   have HS:Hid (¬tx (stp r3)=Tp.mSemi):=hs
   clear hs
   obtain⟨ab,q1,rfl,q2,q3⟩:=ht.out
   go_wp2_with fail
   refine⟨rfl,?_⟩
   rw[show Tp.global r=.error (3,at' (stp r3)) by unfold Tp.global;simp only [HR.out,HR2.out,HR3.out,bind,Except.bind,Tp.want,if_pos HC.out,if_pos HI.out,if_neg HS.out]]
   exact zt hext8 ht hx
 ·have hdec:=decide_eq_false hi
  rw[if_neg hi]at hst8
  have HI:Hid (¬tx r3=Tp.wInt):=hi
  clear hi
  go_wp2_with fail
  clear hdec
  by_cases ha:tx r3=Tp.wArray
  rotate_left
  ·refine(zO hst8 Tp.wArray _ rfl ha).mono ?_
   rintro e w9 ⟨ht,hx⟩
   have HA:Hid (¬tx r3=Tp.wArray):=ha
   clear ha
   obtain⟨ab,q1,rfl,q2,q3⟩:=ht.out
   go_wp2_with fail
   refine⟨rfl,?_⟩
   rw[show Tp.global r=.error (3,at' r3) by unfold Tp.global;simp only [HR.out,HR2.out,HR3.out,bind,Except.bind,Tp.want,if_pos HC.out,if_neg HI.out,if_neg HA.out]]
   exact zt hext8 ht hx
  refine(zD hst8 Tp.wArray _ rfl ha).mono ?_
  rintro e w9 ⟨rfl,hst9,hx9⟩
  have HA:Hid (tx r3=Tp.wArray):=ha
  have hrb9:=(hx9.block rb (zi hrb8) (by omega)).trans hrb8
  have hext9:=hext8.trans hx9
  clear ha hst8 hx9 hext8 hrb8
  go_wp2_with fail
  rcases hres2:Tp.number 30 (stp r3) with er|⟨k,r5⟩
  ·have HN:Hid (Tp.number 30 (stp r3)=.error er):=hres2
   clear hres2
   refine(ui hst9 HN).mono ?_
   rintro e w10 ⟨ht,hx⟩
   obtain⟨ab,q1,rfl,q2,q3⟩:=ht.out
   go_wp2_with fail
   refine⟨rfl,?_⟩
   rw[show Tp.global r=.error er by unfold Tp.global;simp only [HR.out,HR2.out,HR3.out,bind,Except.bind,Tp.want,if_pos HC.out,if_neg HI.out,if_pos HA.out,HN.out]]
   exact zt hext9 ht hx
  have HN:Hid (Tp.number 30 (stp r3)=.ok (k,r5)):=hres2
  have hk30:=number_le hres2
  clear hres2
  refine(ui hst9 HN).mono ?_
  intro e w10 hq
  obtain⟨v,rfl,rfl,hst10,hx10⟩:=hq
  have hrb10:=(hx10.block rb (zi hrb9) (by omega)).trans hrb9
  have hext10:=hext9.trans hx10
  clear hst9 hx10 hext9 hrb9
  have k2:w10.cell? ⟨rb,2,none⟩=some (.int .i64 0):=za hrb10
  have z2:w10.frozen? ⟨rb,2,none⟩=false:=zg hrb10
  by_cases hk0:k=0
  ·have hk0':((k:Int) == 0)=true:=by simp;omega
   have HK:Hid (k=0):=hk0
   clear hk0
   go_wp2_with fail
   clear k2 z2
   have hbS:Below rb w10 (w10.setCell ⟨rb,2,none⟩ (.int .i64 (k:Int))):=zq (Below.refl _ _) zn 2 _
   have hst11:=hst10.belowB hbS (by omega)
   have hext11:=hext10.trans' (hbS.mono hrw)
   generalize w10.setCell ⟨rb,2,none⟩ (.int .i64 (k:Int))=w11 at hbS hst11 hext11 ⊢
   refine(zX hst11 2).mono ?_
   rintro e w12 ⟨ht,hb12⟩
   obtain⟨ab,q1,rfl,q2,q3⟩:=ht.out
   go_wp2_with fail
   refine⟨rfl,?_⟩
   rw[show Tp.global r=.error (2,at' r5) by unfold Tp.global;simp only [HR.out,HR2.out,HR3.out,bind,Except.bind,Tp.want,if_pos HC.out,if_neg HI.out,if_pos HA.out,HN.out,if_pos HK.out]]
   exact zt hext11 ht (Ext.below hb12)
  ·have hk0':((k:Int) == 0)=false:=by simp;omega
   have HK:Hid (¬k=0):=hk0
   clear hk0
   go_wp2_with fail
   clear k2 z2
   have hbS:Below rb w10 (w10.setCell ⟨rb,2,none⟩ (.int .i64 (k:Int))):=zq (Below.refl _ _) zn 2 _
   have hst11:=hst10.belowB hbS (by omega)
   have hext11:=hext10.trans' (hbS.mono hrw)
   have hrb11:=zw 2 (.int .i64 (k:Int)) hrb10
   generalize w10.setCell ⟨rb,2,none⟩ (.int .i64 (k:Int))=w11 at hbS hst11 hext11 hrb11 ⊢
   clear hbS hst10 hext10 hrb10
   by_cases hs:tx r5=Tp.mSemi
   ·refine(zD hst11 Tp.mSemi _ rfl hs).mono ?_
    rintro e w12 ⟨rfl,hst12,hx12⟩
    have HS:Hid (tx r5=Tp.mSemi):=hs
    have hrb12:=(hx12.block rb (zi hrb11) (by omega)).trans hrb11
    have hext12:=hext11.trans hx12
    clear hs hst11 hx12 hext11 hrb11
    have kr:∀ i,w12.cell? ⟨rb,i,none⟩=(gcells (bs nm) (hd r).pos k (decide (tx r1=Tp.mStar)))[i]?:=fun i=>za hrb12
    have zr:∀ i,w12.frozen? ⟨rb,i,none⟩=false:=fun i=>zg hrb12
    simp only [gcells]at kr
    go_wp2_with fail
    refine bodyPost_ret (v:=.agg (gcells (bs nm) (at' r) ((k:Int)) (decide (tx r1=Tp.mStar)))) (by simp[results,Tryz.results59,go_sem,kr,gcells,at']) rfl ?_
    rw[show Tp.global r=.ok (⟨nm,at' r,k,tx r1 == Tp.mStar⟩,stp r5) by unfold Tp.global;simp only [HR.out,HR2.out,HR3.out,bind,Except.bind,Tp.want,if_pos HC.out,if_neg HI.out,if_pos HA.out,HN.out,if_neg HK.out,if_pos HS.out]]
    exact⟨_,rfl,by unfold VG;rw[qV] <;> rfl,hst12.belowB (kP w12 rb _ _ _ _) (by omega),hext12.trans' ((kP w12 rb _ _ _ _).mono hrw)⟩
   ·refine(zO hst11 Tp.mSemi _ rfl hs).mono ?_
    rintro e w12 ⟨ht,hx⟩
    have HS:Hid (¬tx r5=Tp.mSemi):=hs
    clear hs
    obtain⟨ab,q1,rfl,q2,q3⟩:=ht.out
    go_wp2_with fail
    refine⟨rfl,?_⟩
    rw[show Tp.global r=.error (3,at' r5) by unfold Tp.global;simp only [HR.out,HR2.out,HR3.out,bind,Except.bind,Tp.want,if_pos HC.out,if_neg HI.out,if_pos HA.out,HN.out,if_neg HK.out,if_neg HS.out]]
    exact zt hext11 ht hx
end Go.Proofs.YtmocelfkmdpogaaGreatDoor
