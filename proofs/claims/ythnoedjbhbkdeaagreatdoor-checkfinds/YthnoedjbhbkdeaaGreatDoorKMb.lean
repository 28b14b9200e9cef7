import Derived.Test.YthnoedjbhbkdeaaGreatDoorKMa
import Derived.Deep.QuietTactic
import Derived.BigQuiet
set_option maxRecDepth 100000
set_option maxHeartbeats 4000000
namespace Go.Proofs.YthnoedjbhbkdeaaGreatDoor
open Go.RowKit Go.Maps
open Tp (Bs Th Sy Seen)
def SeenM (w:World) (sb n:Nat) (S:Seen):Prop:=∃ f,MapV w sb n f/\∀ k,match S k with
 | none=>f k=none
 | some l=>∃ v,f k=some v/\SL w 0 v l/\l.length<=1000
theorem MapV.blk {w:World}{b n:Nat}{f:Bs->Option Value}(h:MapV w b n f):∃ es c,w.heap[b]?=some (.map es c):=by
 obtain⟨D,⟨es,clock,h1,_⟩,_⟩:=h.own
 exact⟨es,clock,h1⟩
theorem SL.ext {w w':World}{B b:Nat}{v:Value}{l:List Sy}(h:SL w B v l) (k:Ext b w w') (hb:∃ es c,w.heap[b]?=some (.map es c)):SL w' B v l:=by
 rcases h with q|⟨g,cap,q1,q2,q3⟩
 ·exact Or.inl q
 ·obtain⟨cur,r1,r2,r3⟩:=q3.b
  obtain⟨es,c,hm⟩:=hb
  have hne:g≠b:=fun e=>by rw[e,hm]at r1;cases r1
  exact Or.inr ⟨g,cap,q1,q2,⟨⟨cur,(k.block g (zc r1) hne).trans r1,r2,r3⟩,q3.n,q3.m⟩⟩
theorem SL.shape {w:World}{B:Nat}{v:Value}{l:List Sy}(h:SL w B v l):∃ a c,v=.slice a l.length c:=h.len
theorem SeenM.on {w w':World}{sb n:Nat}{S:Seen}(h:SeenM w sb n S) (k:Below w.heap.size w w'):SeenM w' sb n S:=by
 obtain⟨f,h1,h2⟩:=h
 refine⟨f,h1.on (k.block _ h1.lt),fun q=>?_⟩
 have:=h2 q
 cases hq:S q with
 | none=>rw[hq]at this;exact this
 | some l=>rw[hq]at this;obtain⟨v,a,b,c⟩:=this;exact⟨v,a,b.on k,c⟩
theorem SeenM.lt {w:World}{sb n:Nat}{S:Seen}(h:SeenM w sb n S):sb<w.heap.size:=by
 obtain⟨f,h1,_⟩:=h
 exact h1.lt
theorem SeenM.ext {w w':World}{sb n b:Nat}{S:Seen}(h:SeenM w sb n S) (k:Ext b w w') (hb:∃ es c,w.heap[b]?=some (.map es c)) (hne:sb≠b):SeenM w' sb n S:=by
 obtain⟨f,h1,h2⟩:=h
 refine⟨f,h1.on (k.block _ h1.lt hne),fun q=>?_⟩
 have:=h2 q
 cases hq:S q with
 | none=>rw[hq]at this;exact this
 | some l=>rw[hq]at this;obtain⟨v,a,b,c⟩:=this;exact⟨v,a,b.ext k hb,c⟩
def SeenV (w:World) (sv:Value) (S:Seen):Prop:=(sv=.map none/\∀ k,S k=none)\/∃ sb n,sv=.map (some sb)/\SeenM w sb n S
theorem SeenV.on {w w':World}{sv:Value}{S:Seen}(h:SeenV w sv S) (k:Below w.heap.size w w'):SeenV w' sv S:=by
 rcases h with q|⟨sb,n,h1,h2⟩
 ·exact Or.inl q
 ·exact Or.inr ⟨sb,n,h1,h2.on k⟩
theorem SeenM.look {w:World}{sb n:Nat}{S:Seen}(h:SeenM w sb n S) (l:Bs) (hl:l.length<=1000000) (c:Bool):∃ v,(Instr.lookup 53 (.map (some sb)) (.string (bs l)) c).run Tryz.prog w=.ok (if c then .tuple #[v,.bool (S l).isSome] else v) w/\(∃ a n d,v=.slice a n d)/\SL w 0 v ((S l).getD [])/\((S l).getD []).length<=1000:=by
 obtain⟨f,h1,h2⟩:=h
 have hr:=h1.look (t:=53) Tryz.underlying53 (zeroSyms w) l hl c
 have:=h2 l
 cases hq:S l with
 | none =>
  rw[hq]at this
  rw[this]at hr
  exact⟨_,hr,⟨none,0,0,rfl⟩,Or.inl ⟨rfl,rfl⟩,by simp⟩
 | some ll =>
  rw[hq]at this
  obtain⟨v,a,b,d⟩:=this
  rw[a]at hr
  obtain⟨a1,c1,hv⟩:=b.shape
  exact⟨_,hr,⟨_,_,_,hv⟩,b,d⟩
theorem SeenV.look {w:World}{sv:Value}{S:Seen}(h:SeenV w sv S) (l:Bs) (hl:l.length<=1000000) (c:Bool):∃ v,(Instr.lookup 53 sv (.string (bs l)) c).run Tryz.prog w=.ok (if c then .tuple #[v,.bool (S l).isSome] else v) w/\(∃ a n d,v=.slice a n d)/\SL w 0 v ((S l).getD [])/\((S l).getD []).length<=1000:=by
 rcases h with⟨rfl,hn⟩|⟨sb,n,rfl,h1⟩
 ·have hr:=uu w (t:=53) Tryz.underlying53 (zeroSyms w) l hl c
  rw[hn l]
  exact⟨_,hr,⟨none,0,0,rfl⟩,Or.inl ⟨rfl,rfl⟩,by simp⟩
 ·exact h1.look l hl c
theorem SeenM.store {w w':World}{sb n:Nat}{S:Seen}{f:Bs->Option Value}(hf:MapV w sb n f) (h:∀ k,match S k with
 | none=>f k=none
 | some l=>∃ v,f k=some v/\SL w 0 v l/\l.length<=1000) {x:Bs} {v:Value} {l:List Sy} (hv:SL w 0 v l) (hl:l.length<=1000) (h1:MapV w' sb (n+1) (updV f x v)) (h2:Ext sb w w'):SeenM w' sb (n+1) (fun k=>if k=x then some l else S k):=by
 refine⟨_,h1,fun k=>?_⟩
 by_cases hk:k=x
 ·simp only [if_pos hk,updV]
  exact⟨v,rfl,hv.ext h2 hf.blk,hl⟩
 ·simp only [if_neg hk,updV]
  have:=h k
  cases hq:S k with
  | none=>rw[hq]at this;exact this
  | some ll=>rw[hq]at this;obtain⟨u,a,b,c⟩:=this;exact⟨u,a,b.ext h2 hf.blk,c⟩
theorem kE (w:World) {ops:Array Oper}{rest:List Oper}{o:Oper}{a:Act}{Q:Exit->Act->World->Prop}
  (hg:o.guard=none) (m x v:Operand) (hop:o.op=Op.mapUpdate 53 m x v)
  (b n:Nat) (S:Seen) (hown:SeenM w b n S) (hn:n<1000000) (l:Bs) (hl:l.length<=1000000) (val:Value) (ll:List Sy) (hsl:SL w 0 val ll) (hll:ll.length<=1000) (hm:a.eval m=.map (some b)) (hx:a.eval x=.string (bs l)) (hv:a.eval v=val)
  (hK:∀ w',SeenM w' b (n+1) (fun k=>if k=l then some ll else S k)->Ext b w w'->w'.heap.size=w.heap.size->wpList Tryz.prog ops Q rest (a.put o.dst undef) w') :
  wpList Tryz.prog ops Q (o :: rest) a w:=by
 obtain⟨f,h1,h2⟩:=hown
 exact zE w hg m x v _ hop _ Tryz.underlying53 b n f h1 hn l hl val hm hx hv (fun w' q1 q2 q3=>hK w' (SeenM.store h1 h2 hsl hll q1 q2) q2 q3)
def impsAt (own:Bs) (S:Seen) (l:List Bs) (i:Nat):Tp.Ck:=Tp.imps own S (l.take i).reverse (l.drop i)
theorem uD (own:Bs) (S:Seen) (l:List Bs):impsAt own S l 0=Tp.imps own S [] l:=by simp[impsAt]
theorem impsAt_all (own:Bs) (S:Seen) (l:List Bs):impsAt own S l l.length=none:=by simp[impsAt,Tp.imps]
theorem uE (own:Bs) (S:Seen) {l:List Bs}{i:Nat}{x:Bs}(h:l[i]?=some x):impsAt own S l i=if x=own\/x∈l.take i then some (10,none) else if S x=none then some (8,none) else impsAt own S l (i+1):=by
 obtain⟨hi,e⟩:=List.getElem?_eq_some_iff.1 h
 unfold impsAt
 rw[List.drop_eq_getElem_cons hi,e,Tp.imps,List.take_succ_eq_append_getElem hi,List.reverse_append,e]
 simp
def upTo (S:Seen) (l:List Bs) (i:Nat):Seen:=fun k=>if k∈l.take i then S k else none
theorem upTo_succ {S:Seen}{l:List Bs}{i:Nat}{x:Bs}{ll:List Sy}(h:l[i]?=some x) (hs:S x=some ll):upTo S l (i+1)=fun k=>if k=x then some ll else upTo S l i k:=by
 obtain⟨hi,e⟩:=List.getElem?_eq_some_iff.1 h
 funext k
 unfold upTo
 rw[List.take_succ_eq_append_getElem hi,e]
 by_cases hk:k=x
 ·rw[if_pos (by simp[hk]),if_pos hk,hk,hs]
 ·rw[if_neg hk]
  have:k∈l.take i++[x]↔k∈l.take i:=by simp[hk]
  by_cases hm:k∈l.take i
  ·rw[if_pos (this.2 hm),if_pos hm]
  ·rw[if_neg (fun q=>hm (this.1 q)),if_neg hm]
def thrownE (en:Nat):Ending:=.panicked [{ v:=.iface 28 (.int .i64 (en:Int)),recovered:=false }]
def ImpP (w:World) (own:Bs) (is:List Bs) (S:Seen) (e:Ending) (w':World):Prop:=Below w.heap.size w w'/\match Tp.imps own S [] is with
 | none=>∃ ob n,e=.returned (.map (some ob))/\w.heap.size<=ob/\SeenM w' ob n (fun k=>if k∈is then S k else none)
 | some er=>e=thrownE er.1
def AskI (w:World) (inn:Nat) (ia:Option Addr) (is:List Bs):Prop :=
 ∀ i,i<inn->∃(g:Nat) (x:Bs),ia=some ⟨g,0,none⟩/\g<w.heap.size/\w.cell? ⟨g,i,none⟩=some (.string (bs x))/\x.length<=1000000/\is[i]?=some x
theorem beq_bs (a b:Bs):((bs a).toList == (bs b).toList)=decide (a=b):=by rw[Bool.eq_iff_iff,decide_eq_true_iff,beq_iff_eq,zw,zw]
theorem xH {w:World}{nm:Bs}{inn gn pn bn ic gc pc bc:Nat}{ia ga pa ba:Option Addr}{is:List Bs}{S:Seen}{sv:Value}(hI:AskI w inn ia is) (hl:is.length=inn) (hin:inn<=1000) (hS:SeenV w sv S) :
  Calls Tryz.prog 74 #[.agg #[.string (bs nm),.slice ia inn ic,.slice ga gn gc,.slice pa pn pc,.slice ba bn bc],sv] w (ImpP w nm is S):=by
 obtain⟨wm,hwm⟩:∃ wm,wm=w.alloc (.cells #[.string (bs nm),.slice ia inn ic,.slice ga gn gc,.slice pa pn pc,.slice ba bn bc] 27):=⟨_,rfl⟩
 have hblk0:wm.heap[w.heap.size]?=some (.cells #[.string (bs nm),.slice ia inn ic,.slice ga gn gc,.slice pa pn pc,.slice ba bn bc] 27 (0,0)):=by rw[hwm];exact zl _ _
 have hszm:wm.heap.size=w.heap.size+1:=by rw[hwm];simp
 have hbe:Below w.heap.size w (wm.alloc (.map #[] 0)):=by rw[hwm];exact(zb _ _).alloc (by simp) _
 have hmv:=MapV.made wm
 rw[hszm]at hmv
 have hsm:SeenM (wm.alloc (.map #[] 0)) (w.heap.size+1) 0 (upTo S is 0):=⟨_,hmv,fun k=>by simp[upTo]⟩
 have hblk:(wm.alloc (.map #[] 0)).heap[w.heap.size]?=some (.cells #[.string (bs nm),.slice ia inn ic,.slice ga gn gc,.slice pa pn pc,.slice ba bn bc] 27 (0,0)):=(Below.heap_alloc _ _ _ (by omega)).trans hblk0
 obtain⟨k0,k1,k2,k3,k4⟩:=ya hblk
 have hmm:=@run_makeMap Tryz.prog
 have HI:=zh hI
 have HL:=zh hl
 have HK:=zh hblk
 have HSM:=zh hsm
 have HMB:=zh hmv.blk
 have HBE:=zh hbe
 have HS:Hid (SeenV (wm.alloc (.map #[] 0)) sv S):=hS.on hbe
 have HSB:Hid (∀ sb,sv=.map (some sb)->sb<w.heap.size):=by
  rcases hS with⟨rfl,_⟩|⟨sb,n,rfl,q⟩
  ·intro sb e;cases e
  ·intro sb' e;cases e;exact q.lt
 have hin':(inn:Int)<=1000:=by omega
 clear hI hl hblk hsm hmv hbe hS k0 k2 k3 k4 hblk0
 go_enter Tryz.func74,Tryz.ntmps74
 go_wp2_with fail
 rw[<-hwm]
 have hsz0:w.heap.size+2<=(wm.alloc (.map #[] 0)).heap.size:=by simp;omega
 generalize wm.alloc (.map #[] 0)=w0 at *
 clear hwm hszm wm hmm
 go_loopg [16] inn (fun k vi wr=>∃ i:Nat,i<=inn/\k=inn - i/\vi=.int .i64 (i:Int)/\Hid (SeenM wr (w.heap.size+1) i (upTo S is i))/\Hid (Ext (w.heap.size+1) w0 wr)/\Hid (Tp.imps nm S [] is=impsAt nm S is i/\∀ k∈is.take i,S k≠none))
 case atStart=>exact⟨0,by omega,by omega,rfl,HSM,Ext.refl _ _,(uD _ _ _).symm,by simp⟩
 case round =>
  obtain⟨i,hid,hk,rfl,HTM,HE,HIM⟩:=hrel
  have hsz:=HE.out.size
  by_cases hlt:i<inn
  ·have hlt':(i:Int)<(inn:Int):=by omega
   obtain⟨g,x,hga,hgB,c0,hxl,hx⟩:=HI.out i hlt
   subst hga
   have kc0:wr.cell? ⟨g,i,none⟩=some (.string (bs x)):=HE.out.cell ((HBE.out.cell (p:=⟨g,i,none⟩) hgB).trans c0) (by simp;omega)
   have kn0:wr.cell? ⟨w.heap.size,0,none⟩=some (.string (bs nm)):=HE.out.cell (ya HK.out).1 (by simp)
   have hlgr:g<wr.heap.size:=by omega
   have hlwr:w.heap.size<wr.heap.size:=by omega
   have HX:=zh hx
   have HST:=zh (uE nm S hx)
   obtain⟨v1,hlook1,⟨a1,n1,d1,hv1⟩,_,_⟩:=HTM.out.look x hxl true
   subst hv1
   have HB3:Hid (Below w.heap.size w wr):=HBE.out.trans (ym HE.out (by omega) (by omega))
   have hah:(upTo S is i x).isSome=decide (x∈is.take i):=by
    unfold upTo
    by_cases hm:x∈is.take i
    ·rw[if_pos hm,decide_eq_true hm]
     exact Option.isSome_iff_ne_none.2 (HIM.out.2 x hm)
    ·rw[if_neg hm,decide_eq_false hm];rfl
   rw[hah]at hlook1
   clear c0 hx hah
   by_cases hm:x∈is.take i
   ·rw[decide_eq_true hm]at hlook1
    simp only [if_true]at hlook1
    have HD:Hid (Tp.imps nm S [] is=some (10,none)):=by unfold Hid;rw[HIM.out.1,HST.out,if_pos (Or.inr hm)]
    clear hm
    go_wp2_with fail
    refine⟨rfl,HB3.out,?_⟩
    rw[HD.out]
    rfl
   ·rw[decide_eq_false hm]at hlook1
    simp only [if_true]at hlook1
    have heqb:=beq_bs x nm
    by_cases hq:x=nm
    ·rw[decide_eq_true hq]at heqb
     have HD:Hid (Tp.imps nm S [] is=some (10,none)):=by unfold Hid;rw[HIM.out.1,HST.out,if_pos (Or.inl hq)]
     clear hm hq
     go_wp2_with fail
     refine⟨rfl,HB3.out,?_⟩
     rw[HD.out]
     rfl
    ·rw[decide_eq_false hq]at heqb
     have HS1:Hid (SeenV wr sv S):=by
      have hs0:=HS.out
      rcases hs0 with q|⟨sb,n,h1,h2⟩
      ·exact Or.inl q
      ·exact Or.inr ⟨sb,n,h1,h2.ext HE.out HMB.out (by have:=HSB.out sb h1;omega)⟩
     obtain⟨v2,hlook2,⟨a2,n2,d2,hv2⟩,hsl2,hll2⟩:=HS1.out.look x hxl true
     subst hv2
     have HSL:=zh hsl2
     have HLL:=zh hll2
     have HNO:Hid (¬(x=nm\/x∈is.take i)):=fun e=>e.elim hq hm
     clear hsl2 hll2 hm hq
     cases hsx:S x with
     | none =>
      rw[hsx]at hlook2
      simp only [Option.isSome_none,if_true]at hlook2
      have HD:Hid (Tp.imps nm S [] is=some (8,none)):=by unfold Hid;rw[HIM.out.1,HST.out,if_neg HNO.out,if_pos hsx]
      clear hsx
      go_wp2_with fail
      refine⟨rfl,HB3.out,?_⟩
      rw[HD.out]
      rfl
     | some ll =>
      rw[hsx]at hlook2 HSL HLL
      simp only [Option.isSome_some,if_true]at hlook2
      have HSX:=zh hsx
      clear hsx
      go_wp2_with (at_mapUpdate;refine kE _ rfl _ _ _ rfl (w.heap.size+1) i (upTo S is i) HTM.out (by omega) x hxl (.slice a2 n2 d2) ll HSL.out HLL.out rfl rfl rfl ?_;intro w3 q1 q2 q3)
      have HT3:Hid (SeenM w3 (w.heap.size+1) (i+1) (upTo S is (i+1))):=by unfold Hid;rw[upTo_succ HX.out HSX.out];exact q1
      have HE3:=zh (HE.out.trans q2)
      have HIM3:Hid (Tp.imps nm S [] is=impsAt nm S is (i+1)/\∀ k∈is.take (i+1),S k≠none):=by
       refine⟨by rw[HIM.out.1,HST.out,if_neg HNO.out,if_neg (by rw[HSX.out];simp)],fun k hk=>?_⟩
       obtain⟨hi,e⟩:=List.getElem?_eq_some_iff.1 HX.out
       rw[List.take_succ_eq_append_getElem hi,e,List.mem_append]at hk
       rcases hk with hk|hk
       ·exact HIM.out.2 k hk
       ·rw[List.mem_singleton.1 hk,HSX.out];simp
      clear q1 q2 q3
      go_wp2_with fail
      go_roundg (inn - (i+1))
      case measure=>omega
      case rel=>exact⟨i+1,by omega,rfl,by go_num,HT3,HE3,HIM3⟩
  ·have hlt':¬(i:Int)<(inn:Int):=by omega
   have hei:i=is.length:=by have:=HL.out;omega
   have HF1:Hid (Tp.imps nm S [] is=none):=by unfold Hid;rw[HIM.out.1,hei,impsAt_all]
   have HF2:Hid (SeenM wr (w.heap.size+1) i (fun k=>if k∈is then S k else none)):=by
    have:=HTM.out
    rw[hei]at this ⊢
    unfold upTo at this
    rw[List.take_length]at this
    exact this
   have HB3:Hid (Below w.heap.size w wr):=HBE.out.trans (ym HE.out (by omega) (by omega))
   clear HTM HE HIM hei
   go_wp2_with fail
   go_ret
   refine⟨HB3.out,?_⟩
   rw[HF1.out]
   exact⟨_,_,rfl,by omega,HF2.out⟩
theorem fidx_of (l:List Sy) (n:Bs):(∃(k:Nat) (hk:k<l.length),fidx l n=(k:Int)/\Tp.findS l n=some l[k])\/fidx l n=-1/\Tp.findS l n=none:=by
 unfold fidx Tp.findS
 cases h:l.findIdx? (fun s=>s.1 == n) with
 | some k =>
  left
  have h':=h
  rw[List.findIdx?_eq_some_iff_getElem]at h'
  obtain⟨hk,h1,h2⟩:=h'
  refine⟨k,hk,rfl,?_⟩
  rw[List.find?_eq_some_iff_getElem]
  exact⟨by simpa using h1,k,hk,rfl,fun j hj=>by simpa using h2 j hj⟩
 | none =>
  right
  refine⟨rfl,?_⟩
  rw[List.find?_eq_none]
  rw[List.findIdx?_eq_none_iff]at h
  intro x hx
  simpa using h x hx
def lookRes (r:Except Nat (Nat× Int)):Value:=match r with
 | .ok x=>.tuple #[.agg #[.int .i64 (x.1:Int),.int .i64 x.2],.int .i64 0]
 | .error e=>.tuple #[.agg #[.int .i64 0,.int .i64 0],.int .i64 (e:Int)]
def seenRes (o:Option (List Sy)) (nm:Bs):Except Nat (Nat× Int):=match o with
 | none=>.error 5
 | some l=>match Tp.findS l nm with
  | some s=>.ok s.2
  | none=>.error 7
theorem xK {w:World}{ob n:Nat}{S:Seen}(h:SeenM w ob n S) (md nm:Bs) (hl:md.length<=1000000) :
  Calls Tryz.prog 130 #[.map (some ob),.string (bs md),.string (bs nm)] w fun e w'=>e=.returned (lookRes (seenRes (S md) nm))/\Below w.heap.size w w':=by
 have hal:∀ ob',Below w.heap.size w (w.alloc ob'):=fun ob'=>zb _ _
 obtain⟨w0,hw0⟩:∃ w0,w0=w.alloc (.cells #[.int .i64 0,.int .i64 0] 191):=⟨_,rfl⟩
 have hb0:Below w.heap.size w w0:=by rw[hw0];exact hal _
 have hk0:w0.heap[w.heap.size]?=some (.cells #[.int .i64 0,.int .i64 0] 191 (0,0)):=by rw[hw0];exact zl _ _
 have hs0:w.heap.size<w0.heap.size:=by rw[hw0];simp
 obtain⟨v1,hlook1,⟨a1,n1,d1,hv1⟩,hsl,hll⟩:=(h.on hb0).look md hl true
 subst hv1
 have c0:w0.cell? ⟨w.heap.size,0,none⟩=some (.int .i64 0):=(za hk0).trans rfl
 have c1:w0.cell? ⟨w.heap.size,1,none⟩=some (.int .i64 0):=(za hk0).trans rfl
 have z0:w0.frozen? ⟨w.heap.size,0,none⟩=false:=zg hk0
 have z1:w0.frozen? ⟨w.heap.size,1,none⟩=false:=zg hk0
 have HB0:=zh hb0
 have HK0:=zh hk0
 clear hal h hb0 hk0
 cases hS:S md with
 | none =>
  rw[hS]at hlook1
  simp only [Option.isSome_none,if_true]at hlook1
  clear hS hsl hll
  go_enter Tryz.func130,Tryz.ntmps130
  go_upto_region 1 with fail
  rw[<-hw0]
  clear hw0
  go_wp2_with fail
  exact bodyPost_ret (v:=.tuple #[.agg #[.int .i64 0,.int .i64 0],.int .i64 5]) (by simp[results,Tryz.results130,go_sem,c0,c1]) rfl ⟨rfl,HB0.out.trans (zj (zj (Below.refl _ _) zn 0 _) zn 1 _)⟩
 | some l =>
  rw[hS]at hlook1 hsl hll
  simp only [Option.isSome_some,if_true,Option.getD_some]at hlook1 hsl hll
  clear hS
  have hfp:=find_post hsl hll nm
  have HSL:=zh hsl
  have HFP:=zh hfp
  obtain⟨a9,c9,hv9⟩:=hsl.len
  cases hv9
  clear hsl hfp
  rcases fidx_of l nm with⟨k,hk,hfi,hfs⟩|⟨hfi,hfs⟩
  ·rw[hfi]at HFP
   have HRES:Hid (lookRes (seenRes (some l) nm)=.tuple #[.agg #[.int .i64 (l[k].2.1:Int),.int .i64 l[k].2.2],.int .i64 0]):=by unfold Hid seenRes;simp only;rw[hfs];rfl
   obtain⟨g,hag,_,hgl,hcell⟩:=HSL.out.cell k hk
   subst hag
   have q1:w0.cell? ⟨g,k * 3+1,none⟩=some (.int .i64 (l[k].2.1:Int)):=hcell 1 (by omega)
   have q2:w0.cell? ⟨g,k * 3+2,none⟩=some (.int .i64 l[k].2.2):=hcell 2 (by omega)
   have Q1:=zh q1
   have Q2:=zh q2
   have hkl:(k:Int)<(l.length:Int):=by omega
   have hll':(l.length:Int)<=1000:=by omega
   clear hcell hfi hfs q1 q2
   rw[HRES.out]
   clear HRES
   generalize l[k].2.1=x1 at *
   generalize l[k].2.2=x2 at *
   generalize l.length=ln at *
   go_enter Tryz.func130,Tryz.ntmps130
   go_upto_region 1 with fail
   rw[<-hw0]
   clear hw0
   go_wp2_with fail
   refine HFP.out.mono ?_
   rintro e w3 ⟨rfl,hb3⟩
   have e3:=(hb3.block _ hs0).trans HK0.out
   have r1:w3.cell? ⟨g,k * 3+1,none⟩=some (.int .i64 (x1:Int)):=(hb3.cell (p:=⟨g,_,none⟩) hgl).trans Q1.out
   have r2:w3.cell? ⟨g,k * 3+2,none⟩=some (.int .i64 x2):=(hb3.cell (p:=⟨g,_,none⟩) hgl).trans Q2.out
   have hgl3:g<w3.heap.size:=Nat.lt_of_lt_of_le hgl hb3.size
   have hs3:w.heap.size<w3.heap.size:=Nat.lt_of_lt_of_le hs0 hb3.size
   have s0:w3.cell? ⟨w.heap.size,0,none⟩=some (.int .i64 0):=(za e3).trans rfl
   have s1:w3.cell? ⟨w.heap.size,1,none⟩=some (.int .i64 0):=(za e3).trans rfl
   have t0:w3.frozen? ⟨w.heap.size,0,none⟩=false:=zg e3
   have t1:w3.frozen? ⟨w.heap.size,1,none⟩=false:=zg e3
   have HB3:Hid (Below w.heap.size w w3):=HB0.out.trans (hb3.mono (by omega))
   clear e3 hb3 c0 c1 z0 z1
   go_wp2_with fail
   go_region
   go_wp2_with fail
   exact bodyPost_ret (v:=.tuple #[.agg #[.int .i64 (x1:Int),.int .i64 x2],.int .i64 0]) (by simp[results,Tryz.results130,go_sem,s0,s1]) rfl ⟨rfl,HB3.out.trans (zj (zj ((Below.refl _ _).drew) zn 0 _) zn 1 _)⟩
  ·rw[hfi]at HFP
   have HRES:Hid (lookRes (seenRes (some l) nm)=.tuple #[.agg #[.int .i64 0,.int .i64 0],.int .i64 7]):=by unfold Hid seenRes;simp only;rw[hfs];rfl
   clear hfi hfs HSL
   rw[HRES.out]
   clear HRES
   generalize l.length=ln at *
   go_enter Tryz.func130,Tryz.ntmps130
   go_upto_region 1 with fail
   rw[<-hw0]
   clear hw0
   go_wp2_with fail
   refine HFP.out.mono ?_
   rintro e w3 ⟨rfl,hb3⟩
   have e3:=(hb3.block _ hs0).trans HK0.out
   have hs3:w.heap.size<w3.heap.size:=Nat.lt_of_lt_of_le hs0 hb3.size
   have s0:w3.cell? ⟨w.heap.size,0,none⟩=some (.int .i64 0):=(za e3).trans rfl
   have s1:w3.cell? ⟨w.heap.size,1,none⟩=some (.int .i64 0):=(za e3).trans rfl
   have t0:w3.frozen? ⟨w.heap.size,0,none⟩=false:=zg e3
   have t1:w3.frozen? ⟨w.heap.size,1,none⟩=false:=zg e3
   have HB3:Hid (Below w.heap.size w w3):=HB0.out.trans (hb3.mono (by omega))
   clear e3 hb3 c0 c1 z0 z1
   go_wp2_with fail
   exact bodyPost_ret (v:=.tuple #[.agg #[.int .i64 0,.int .i64 0],.int .i64 7]) (by simp[results,Tryz.results130,go_sem,s0,s1]) rfl ⟨rfl,HB3.out.trans (zj (zj (Below.refl _ _) zn 0 _) zn 1 _)⟩
abbrev Near:=List (Bs->Option (Nat× Int))
structure NearM (w:World) (sb:Nat) (fs:Near):Prop where
 lt:sb<w.heap.size
 c:∀ i (h:i<fs.length),∃ gb n,w.cell? ⟨sb,i,none⟩=some (.map (some gb))/\MapV w gb n (fun k=>(fs[i] k).map thV)
theorem NearM.on {w w':World}{sb:Nat}{fs:Near}(h:NearM w sb fs) (k:Below w.heap.size w w'):NearM w' sb fs :=
 ⟨Nat.lt_of_lt_of_le h.lt k.size,fun i hi=>by obtain⟨gb,n,h1,h2⟩:=h.c i hi;exact⟨gb,n,(k.cell (p:=⟨sb,i,none⟩) h.lt).trans h1,h2.on (k.block _ h2.lt)⟩⟩
structure Fnd (w:World) (b:Nat) (S:Seen) (fs:Near):Prop where
 o:∃ ob n,w.cell? ⟨b,0,none⟩=some (.map (some ob))/\SeenM w ob n S
 m:∃ sb c,w.cell? ⟨b+1,0,none⟩=some (.slice (some ⟨sb,0,none⟩) fs.length c)/\NearM w sb fs
 l:b+1<w.heap.size
theorem Fnd.on {w w':World}{b:Nat}{S:Seen}{fs:Near}(h:Fnd w b S fs) (k:Below w.heap.size w w'):Fnd w' b S fs:=by
 obtain⟨ob,n,h1,h2⟩:=h.o
 obtain⟨sb,c,h3,h4⟩:=h.m
 have hl:=h.l
 exact⟨⟨ob,n,(k.cell (p:=⟨b,0,none⟩) (by simp;omega)).trans h1,h2.on k⟩,⟨sb,c,(k.cell (p:=⟨b+1,0,none⟩) hl).trans h3,h4.on k⟩,Nat.lt_of_lt_of_le hl k.size⟩
def finderV (b:Nat):Value:=.func (.func 129) #[] #[.pointer (some ⟨b,0,none⟩),.pointer (some ⟨b+1,0,none⟩)]
theorem neq_bs (a:Bs):(bs a).toList.isEmpty=decide (a=[]):=by rw[zw];cases a <;> simp
theorem near_none {fs:Near}{nm:Bs}(h:∀ j (hj:j<fs.length),fs[j] nm=none):fs.findSome? (fun f=>f nm)=none:=by
 rw[List.findSome?_eq_none_iff]
 intro f hf
 obtain⟨j,hj,e⟩:=List.mem_iff_getElem.1 hf
 rw[<-e]
 exact h j hj
theorem near_some {fs:Near}{nm:Bs}{i:Nat}{x:Nat× Int}(hi:i<fs.length) (h:∀ j (hj:j<fs.length),j<i->fs[j] nm=none) (hx:fs[i] nm=some x):fs.findSome? (fun f=>f nm)=some x:=by
 have e:fs=fs.take i++fs[i] :: fs.drop (i+1):=by rw[<-List.drop_eq_getElem_cons hi,List.take_append_drop]
 rw[e,List.findSome?_append,List.findSome?_cons,hx]
 have:(fs.take i).findSome? (fun f=>f nm)=none:=by
  rw[List.findSome?_eq_none_iff]
  intro f hf
  obtain⟨j,hj,e⟩:=List.mem_iff_getElem.1 hf
  rw[List.length_take]at hj
  rw[List.getElem_take]at e
  rw[<-e]
  exact h j (by omega) (by omega)
 rw[this]
 rfl
theorem vF {w:World}{b:Nat}{S:Seen}{fs:Near}(h:Fnd w b S fs) (hfn:fs.length<=1000) (md nm:Bs) (hl:md.length<=1000000) (hl2:nm.length<=1000000) :
  Calls Tryz.prog 129 #[.string (bs md),.string (bs nm),.pointer (some ⟨b,0,none⟩),.pointer (some ⟨b+1,0,none⟩)] w fun e w'=>e=.returned (lookRes (Tp.standV S fs md nm))/\Below w.heap.size w w':=by
 have hal:∀ ob',Below w.heap.size w (w.alloc ob'):=fun ob'=>zb _ _
 obtain⟨w0,hw0⟩:∃ w0,w0=w.alloc (.cells #[.int .i64 0,.int .i64 0] 191):=⟨_,rfl⟩
 have hb0:Below w.heap.size w w0:=by rw[hw0];exact hal _
 have hk0:w0.heap[w.heap.size]?=some (.cells #[.int .i64 0,.int .i64 0] 191 (0,0)):=by rw[hw0];exact zl _ _
 have hs0:w.heap.size<w0.heap.size:=by rw[hw0];simp
 have h0:=h.on hb0
 have hbl:=h0.l
 have hbl':b<w0.heap.size:=by omega
 have c0:w0.cell? ⟨w.heap.size,0,none⟩=some (.int .i64 0):=(za hk0).trans rfl
 have c1:w0.cell? ⟨w.heap.size,1,none⟩=some (.int .i64 0):=(za hk0).trans rfl
 have z0:w0.frozen? ⟨w.heap.size,0,none⟩=false:=zg hk0
 have z1:w0.frozen? ⟨w.heap.size,1,none⟩=false:=zg hk0
 have HB0:=zh hb0
 have HK0:=zh hk0
 obtain⟨ob,on,ho1,ho2⟩:=h0.o
 obtain⟨sb,sc,hm1,hm2⟩:=h0.m
 have hnb:=neq_bs md
 clear hal h hb0 hk0
 by_cases hmd:md=[]
 ·rw[decide_eq_true hmd]at hnb
  have HRES:Hid (Tp.standV S fs md nm=match fs.findSome? (fun f=>f nm) with|some x=>.ok x|none=>.error 7):=by unfold Hid Tp.standV;rw[if_neg (by simp[hmd])];cases fs.findSome? (fun f=>f nm) <;> rfl
  clear hmd ho1 ho2
  have HNM:=zh hm2
  have hfn':(fs.length:Int)<=1000:=by omega
  obtain⟨fn,hfq⟩:∃ fn,fn=fs.length:=⟨_,rfl⟩
  have HFQ:=zh hfq
  rw[<-hfq]at hm1 hfn'
  clear hm2 hfq
  go_enter Tryz.func129,Tryz.ntmps129
  go_upto_region 1 with fail
  rw[<-hw0]
  clear hw0
  go_wp2_with fail
  go_loopg [22] fn (fun k vi wr=>∃ i:Nat,i<=fn/\k=fn - i/\vi=.int .i64 (i:Int)/\Hid (Below w0.heap.size w0 wr)/\Hid (∀ j (hj:j<fs.length),j<i->fs[j] nm=none))
  case atStart=>exact⟨0,by omega,by omega,rfl,Below.refl _ _,fun j _ hj=>absurd hj (by omega)⟩
  case round =>
   obtain⟨i,hid,hk,rfl,HB,HN⟩:=hrel
   have hsz:=HB.out.size
   have hb1:=HB.out.block _ hs0
   have e3:=hb1.trans HK0.out
   have s0:wr.cell? ⟨w.heap.size,0,none⟩=some (.int .i64 0):=(za e3).trans rfl
   have s1:wr.cell? ⟨w.heap.size,1,none⟩=some (.int .i64 0):=(za e3).trans rfl
   have t0:wr.frozen? ⟨w.heap.size,0,none⟩=false:=zg e3
   have t1:wr.frozen? ⟨w.heap.size,1,none⟩=false:=zg e3
   have hs3:w.heap.size<wr.heap.size:=by omega
   have hne:wr.heap.size≠w.heap.size:=by omega
   have HBW:Hid (Below w.heap.size w wr):=HB0.out.trans (HB.out.mono (by omega))
   clear hb1 e3
   by_cases hlt:i<fn
   ·have hlt':(i:Int)<(fn:Int):=by omega
    have hia:i<fs.length:=by have:=HFQ.out;omega
    obtain⟨gb,gn,hc1,hc2⟩:=HNM.out.c i hia
    have kc:wr.cell? ⟨sb,i,none⟩=some (.map (some gb)):=(HB.out.cell (p:=⟨sb,i,none⟩) HNM.out.lt).trans hc1
    have hlgr:sb<wr.heap.size:=zi kc
    have hlook:=(hc2.on (HB.out.block _ hc2.lt)).look (t:=122) Tryz.underlying122 (zeroTh _) nm hl2 true
    clear hc1 hc2
    cases hfx:fs[i] nm with
    | none =>
     rw[hfx]at hlook
     simp only [Option.map_none,Option.getD_none,Option.isSome_none,if_true]at hlook
     have HN3:Hid (∀ j (hj:j<fs.length),j<i+1->fs[j] nm=none):=fun j hj hji=>by
      rcases Nat.lt_or_ge j i with q|q
      ·exact HN.out j hj q
      ·have:j=i:=by omega
       subst this
       exact hfx
     have HB3:Hid (∀ ob,Below w0.heap.size w0 (wr.alloc ob)):=fun ob=>HB.out.alloc hsz _
     clear hfx
     go_wp2_with fail
     go_roundg (fn - (i+1))
     case measure=>omega
     case rel=>exact⟨i+1,by omega,rfl,by go_num,HB3.out _,HN3⟩
    | some x =>
     obtain⟨x1,x2⟩:=x
     rw[hfx]at hlook
     simp only [Option.map_some,Option.getD_some,Option.isSome_some,if_true,thV]at hlook
     have HFS:=zh (near_some hia HN.out hfx)
     have HR2:Hid (lookRes (Tp.standV S fs md nm)=.tuple #[.agg #[.int .i64 (x1:Int),.int .i64 x2],.int .i64 0]):=by unfold Hid;rw[HRES.out,HFS.out];rfl
     have HB3:Hid (∀ ob,Below w.heap.size w (wr.alloc ob)):=fun ob=>HBW.out.alloc (by omega) _
     clear hfx HRES HFS
     go_wp2_with fail
     exact bodyPost_ret (v:=.tuple #[.agg #[.int .i64 (x1:Int),.int .i64 x2],.int .i64 0]) (by simp[results,Tryz.results129,go_sem,s0,s1,hs3]) rfl ⟨by rw[HR2.out],(zj (zj HBW.out zn 0 _) zn 1 _).alloc (by simp;omega) _⟩
   ·have hlt':¬(i:Int)<(fn:Int):=by omega
    have HFS:Hid (fs.findSome? (fun f=>f nm)=none):=near_none (fun j hj=>HN.out j hj (by have:=HFQ.out;omega))
    have HR2:Hid (lookRes (Tp.standV S fs md nm)=.tuple #[.agg #[.int .i64 0,.int .i64 0],.int .i64 7]):=by unfold Hid;rw[HRES.out,HFS.out];rfl
    clear HRES HFS
    go_wp2_with fail
    exact bodyPost_ret (v:=.tuple #[.agg #[.int .i64 0,.int .i64 0],.int .i64 7]) (by simp[results,Tryz.results129,go_sem,s0,s1]) rfl ⟨by rw[HR2.out],zj (zj HBW.out zn 0 _) zn 1 _⟩
 ·rw[decide_eq_false hmd]at hnb
  have HRES:Hid (Tp.standV S fs md nm=seenRes (S md) nm):=by unfold Hid Tp.standV;rw[if_pos hmd];unfold seenRes;cases S md <;> rfl
  rw[HRES.out]
  clear hmd hm1 hm2 HRES
  have HFS:=zh (xK ho2 md nm hl)
  clear ho2
  obtain⟨r,hr⟩:∃ r,r=seenRes (S md) nm:=⟨_,rfl⟩
  rw[<-hr]at HFS ⊢
  clear hr
  go_enter Tryz.func129,Tryz.ntmps129
  go_upto_region 1 with fail
  rw[<-hw0]
  clear hw0
  go_wp2_with fail
  refine HFS.out.mono ?_
  rintro e w3 ⟨rfl,hb3⟩
  have e3:=(hb3.block _ hs0).trans HK0.out
  have hs3:w.heap.size<w3.heap.size:=Nat.lt_of_lt_of_le hs0 hb3.size
  have s0:w3.cell? ⟨w.heap.size,0,none⟩=some (.int .i64 0):=(za e3).trans rfl
  have s1:w3.cell? ⟨w.heap.size,1,none⟩=some (.int .i64 0):=(za e3).trans rfl
  have t0:w3.frozen? ⟨w.heap.size,0,none⟩=false:=zg e3
  have t1:w3.frozen? ⟨w.heap.size,1,none⟩=false:=zg e3
  have HB3:Hid (Below w.heap.size w w3):=HB0.out.trans (hb3.mono (by omega))
  clear e3 hb3 c0 c1 z0 z1 HFS
  cases r with
  | ok x =>
   obtain⟨x1,x2⟩:=x
   simp only [lookRes]
   go_wp2_with fail
   exact bodyPost_ret (v:=.tuple #[.agg #[.int .i64 (x1:Int),.int .i64 x2],.int .i64 0]) (by simp[results,Tryz.results129,go_sem,s0,s1]) rfl ⟨rfl,zj (zj HB3.out zn 0 _) zn 1 _⟩
  | error er =>
   simp only [lookRes]
   go_wp2_with fail
   exact bodyPost_ret (v:=.tuple #[.agg #[.int .i64 0,.int .i64 0],.int .i64 (er:Int)]) (by simp[results,Tryz.results129,go_sem,s0,s1]) rfl ⟨rfl,zj (zj HB3.out zn 0 _) zn 1 _⟩
theorem xh (w:World) (ov sv:Value) (h1:∃ ob,ov=.map (some ob)) (h2:∃ a n c,sv=.slice a n c) :
  Calls Tryz.prog 77 #[ov,sv] w fun e w'=>e=.returned (finderV w.heap.size)/\w'=(w.alloc (.cells #[ov] 53)).alloc (.cells #[sv] 194):=by
 obtain⟨ob,rfl⟩:=h1
 obtain⟨a,n,c,rfl⟩:=h2
 have hmf:=zm
 go_enter Tryz.func77,Tryz.ntmps77
 go_wp2_with fail
 go_ret
 exact⟨rfl,rfl⟩
def CkP (w:World) (res:Option (Nat× Nat)) (e:Ending) (w':World):Prop:=Below w.heap.size w w'/\match res with
 | none=>e=.returned (.tuple #[])
 | some er=>Thrown w.heap.size er e w'
def RefB (w:World) (b:Nat) (r:Tp.R):Prop:=∃(n:Int) (op:ByteArray) (lv rv:Option Addr) (aa:Option Addr) (ac:Nat),w.heap[b]?=some (.cells #[.int .i64 (r.code:Int),.int .i64 (r.pos:Int),.int .i64 n,.string (bs r.mod),.string (bs r.name),.string op,.pointer lv,.pointer rv,.slice aa r.args ac] 111 (0,0))
def refRes (code pos args:Nat) (a:Nat) (bb:Int) (ee:Nat):Option (Nat× Nat):=if ee≠0 then some (ee,pos) else if Tp.kindOf (a,bb)≠code then some (1,pos) else if code=6/\(args:Int)≠bb then some (2,pos) else none
theorem kT {w:World}{b x code pos args a ee:Nat}{bb n:Int}{md nm:Bs}{op:ByteArray}{lv rv aa:Option Addr}{ac:Nat}(hblk:w.heap[x]?=some (.cells #[.int .i64 (code:Int),.int .i64 (pos:Int),.int .i64 n,.string (bs md),.string (bs nm),.string op,.pointer lv,.pointer rv,.slice aa args ac] 111 (0,0)))
  (hF:∀ W,Below w.heap.size w W->Calls Tryz.prog 129 #[.string (bs md),.string (bs nm),.pointer (some ⟨b,0,none⟩),.pointer (some ⟨b+1,0,none⟩)] W fun e w'=>e=.returned (.tuple #[.agg #[.int .i64 (a:Int),.int .i64 bb],.int .i64 (ee:Int)])/\Below W.heap.size W w') (hc:code<1000) :
  Calls Tryz.prog 190 #[.pointer (some ⟨x,0,none⟩),finderV b] w (CkP w (refRes code pos args a bb ee)):=by
 have hxl:=zc hblk
 have c3:w.cell? ⟨x,3,none⟩=some (.string (bs md)):=(za hblk).trans rfl
 have c4:w.cell? ⟨x,4,none⟩=some (.string (bs nm)):=(za hblk).trans rfl
 have HC:Hid (w.drew.cell? ⟨x,3,none⟩=some (.string (bs md))/\w.drew.cell? ⟨x,4,none⟩=some (.string (bs nm))):=⟨c3,c4⟩
 have HC':Hid (∀ ob,(w.alloc ob).drew.cell? ⟨x,3,none⟩=some (.string (bs md))/\(w.alloc ob).drew.cell? ⟨x,4,none⟩=some (.string (bs nm))):=fun ob=>⟨zA c3 _,zA c4 _⟩
 have HK:=zh hblk
 have HF:=zh hF
 have HCD:=zh (show w.cell? ⟨x,3,none⟩=some (.string (bs md))/\w.cell? ⟨x,4,none⟩=some (.string (bs nm)) from⟨c3,c4⟩)
 clear hblk hF
 unfold finderV
 go_enter Tryz.func190,Tryz.ntmps190
 go_upto_region 0 with fail
 go_cut [4,5] (fun s4 s5 wc=>∃ ib:Nat,s4=.pointer (some ⟨ib,0,none⟩)/\s5=.int .i64 (ee:Int)/\Below w.heap.size w wc/\wc.heap[ib]?=some (.cells #[.int .i64 (a:Int),.int .i64 bb] 191 (0,0))/\w.heap.size<=ib)
 case first =>
  go_region_held3 (fun w'=>w'.cell? ⟨x,3,none⟩=some (.string (bs md))/\w'.cell? ⟨x,4,none⟩=some (.string (bs nm))) (with_reducible (first|exact HC4.out _|exact HC3.out|exact HC.out|exact HC'.out _|exact HCS.out _ _|fail "KEEP")) (first|(go_at_call 129;first|(refine(HF.out w.drew ((Below.refl _ _).drew)).mono ?_;rintro e w2 ⟨rfl,hb2⟩;have HB2:Hid (Below w.heap.size w w2):=((Below.refl _ _).drew).trans hb2;have HC3:Hid (w2.cell? ⟨x,3,none⟩=some (.string (bs md))/\w2.cell? ⟨x,4,none⟩=some (.string (bs nm))):=⟨(HB2.out.cell (p:=⟨x,3,none⟩) hxl).trans HCD.out.1,(HB2.out.cell (p:=⟨x,4,none⟩) hxl).trans HCD.out.2⟩;have HC4:Hid (∀ ob,(w2.alloc ob).cell? ⟨x,3,none⟩=some (.string (bs md))/\(w2.alloc ob).cell? ⟨x,4,none⟩=some (.string (bs nm))):=fun ob=>⟨zA HC3.out.1 _,zA HC3.out.2 _⟩;clear hb2)|(refine(HF.out (w.alloc _).drew ((zb _ _).drew)).mono ?_;rintro e w2 ⟨rfl,hb2⟩;have HB2:Hid (Below w.heap.size w w2):=((zb _ _).drew).trans (hb2.mono (by simp));have HIB:Hid (w2.heap[w.heap.size]?=some (.cells #[.int .i64 0,.int .i64 0] 191 (0,0))):=(hb2.block w.heap.size (by simp)).trans (zl w _);have kb0:w2.cell? ⟨w.heap.size,0,none⟩=some (.int .i64 0):=(za HIB.out).trans rfl;have kb1:w2.cell? ⟨w.heap.size,1,none⟩=some (.int .i64 0):=(za HIB.out).trans rfl;have zb0:w2.frozen? ⟨w.heap.size,0,none⟩=false:=zg HIB.out;have zb1:w2.frozen? ⟨w.heap.size,1,none⟩=false:=zg HIB.out;have HC3:Hid (w2.cell? ⟨x,3,none⟩=some (.string (bs md))/\w2.cell? ⟨x,4,none⟩=some (.string (bs nm))):=⟨(HB2.out.cell (p:=⟨x,3,none⟩) hxl).trans HCD.out.1,(HB2.out.cell (p:=⟨x,4,none⟩) hxl).trans HCD.out.2⟩;have HCS:Hid (∀ u v,((w2.setCell ⟨w.heap.size,0,none⟩ u).setCell ⟨w.heap.size,1,none⟩ v).cell? ⟨x,3,none⟩=some (.string (bs md))/\((w2.setCell ⟨w.heap.size,0,none⟩ u).setCell ⟨w.heap.size,1,none⟩ v).cell? ⟨x,4,none⟩=some (.string (bs nm))):=fun u v=>⟨by rw[World.cell?_setCell_far _ _ _ _ (by simp;omega),World.cell?_setCell_far _ _ _ _ (by simp;omega)];exact HC3.out.1,by rw[World.cell?_setCell_far _ _ _ _ (by simp;omega),World.cell?_setCell_far _ _ _ _ (by simp;omega)];exact HC3.out.2⟩;clear hb2)))
  ·go_wp2_with fail
   go_meet
   case rel=>exact⟨w2.heap.size,rfl,rfl,HB2.out.alloc (by have:=HB2.out.size;omega) _,zl _ _,HB2.out.size⟩
  ·go_wp2_with fail
   go_meet
   case rel=>exact⟨w.heap.size,rfl,rfl,zj (zj HB2.out zn 0 _) zn 1 _,zu 1 _ (zu 0 _ HIB.out),Nat.le_refl _⟩
 case rest =>
  obtain⟨ib,rfl,rfl,hbw,hib,hge⟩:=hcut
  have hsz:=hbw.size
  have e0:=(hbw.block x hxl).trans HK.out
  have k0:wc.cell? ⟨x,0,none⟩=some (.int .i64 (code:Int)):=(za e0).trans rfl
  have k1:wc.cell? ⟨x,1,none⟩=some (.int .i64 (pos:Int)):=(za e0).trans rfl
  have k8:wc.cell? ⟨x,8,none⟩=some (.slice aa args ac):=(za e0).trans rfl
  have i0:wc.cell? ⟨ib,0,none⟩=some (.int .i64 (a:Int)):=(za hib).trans rfl
  have i1:wc.cell? ⟨ib,1,none⟩=some (.int .i64 bb):=(za hib).trans rfl
  have hxl1:x<wc.heap.size:=by omega
  have hil1:ib<wc.heap.size:=zc hib
  have HBW:=zh hbw
  have HIB:=zh hib
  have HE0:=zh e0
  clear hbw hib e0 c3 c4 HC HC' HF HCD HK
  by_cases hee:ee=0
  ·subst hee
   have hc':(code:Int)<1000:=by omega
   have HKI:Hid (wc.drew.cell? ⟨ib,0,none⟩=some (.int .i64 (a:Int))/\wc.drew.cell? ⟨ib,1,none⟩=some (.int .i64 bb)/\wc.drew.cell? ⟨x,0,none⟩=some (.int .i64 (code:Int))):=⟨i0,i1,k0⟩
   have HKI':Hid (∀ W,Below wc.heap.size wc W->W.cell? ⟨ib,0,none⟩=some (.int .i64 (a:Int))/\W.cell? ⟨ib,1,none⟩=some (.int .i64 bb)/\W.cell? ⟨x,0,none⟩=some (.int .i64 (code:Int))):=fun W hW=>⟨(hW.cell (p:=⟨ib,0,none⟩) hil1).trans i0,(hW.cell (p:=⟨ib,1,none⟩) hil1).trans i1,(hW.cell (p:=⟨x,0,none⟩) hxl1).trans k0⟩
   obtain⟨kd,hkd⟩:∃ kd,kd=Tp.kindOf (a,bb):=⟨_,rfl⟩
   have HKA:Hid (Calls Tryz.prog 232 #[.agg #[.int .i64 (a:Int),.int .i64 bb]] wc.drew fun e w'=>e=.returned (.int .i64 (kd:Int))/\Below wc.heap.size wc w'):=by
    rw[hkd]
    exact(kind_any a bb wc.drew).mono fun e w' q=>⟨q.1,((Below.refl _ _).drew).trans q.2⟩
   have hkn:kd<1000:=by rw[hkd];unfold Tp.kindOf;split <;> (try split) <;> omega
   have HRES:Hid (refRes code pos args a bb 0=if kd≠code then some (1,pos) else if code=6/\(args:Int)≠bb then some (2,pos) else none):=by unfold Hid refRes;rw[if_neg (by simp),hkd]
   clear hkd
   go_wp2_with fail
   go_region_held3 (fun w'=>w'.cell? ⟨ib,0,none⟩=some (.int .i64 (a:Int))/\w'.cell? ⟨ib,1,none⟩=some (.int .i64 bb)/\w'.cell? ⟨x,0,none⟩=some (.int .i64 (code:Int))) (with_reducible (first|exact HKI2.out|exact HKI.out|fail "KEEP")) (first|(go_at_call 232;refine HKA.out.mono ?_;rintro e w3 ⟨rfl,hb3⟩;have HB3:=zh hb3;have HKI2:=zh (HKI'.out w3 hb3);clear hb3))
   have hb3:=HB3.out
   have hsz3:=hb3.size
   have k1':w3.cell? ⟨x,1,none⟩=some (.int .i64 (pos:Int)):=(hb3.cell (p:=⟨x,1,none⟩) hxl1).trans k1
   have k8':w3.cell? ⟨x,8,none⟩=some (.slice aa args ac):=(hb3.cell (p:=⟨x,8,none⟩) hxl1).trans k8
   obtain⟨j0,j1,j2⟩:=HKI2.out
   have hxl3:x<w3.heap.size:=by omega
   have hil3:ib<w3.heap.size:=by omega
   have HBW3:Hid (Below w.heap.size w w3):=HBW.out.trans (hb3.mono hsz)
   have hszw:w.heap.size<=w3.heap.size:=by omega
   clear hb3 i0 i1 k0 k1 k8 HKI HKI' HKA HB3 HKI2
   by_cases hkc:kd=code
   ·subst hkc
    by_cases h6:kd=6
    ·subst h6
     by_cases hab:(args:Int)=bb
     ·subst hab
      have HR2:Hid (refRes 6 pos args a (args:Int) 0=none):=by unfold Hid;rw[HRES.out];simp
      clear HRES
      go_wp2_with fail
      go_quiet (fail)
      go_wp2_with fail
      refine bodyPost_end (results_none rfl _ _ _) rfl ⟨below_drewN HBW3.out _,?_⟩
      rw[HR2.out]
     ·have hab':((args:Int) != bb)=true:=by simpa using hab
      have HR2:Hid (refRes 6 pos args a bb 0=some (2,pos)):=by unfold Hid;rw[HRES.out];simp[hab]
      clear HRES hab
      go_wp2_with fail
      go_quiet (fail)
      go_wp2_with fail
      refine(kh 2 pos _).mono ?_
      rintro e w4 ⟨ht,hb4⟩
      have HB4:Hid (Below w.heap.size w w4):=(below_drewN HBW3.out _).trans (hb4.mono hszw)
      have HT4:=zh (ht.mono (B':=w.heap.size) hszw)
      obtain⟨ab,q1,rfl,q2,q3⟩:=ht.out
      clear ht hb4 q1 q2 q3
      go_wp2_with fail
      refine⟨rfl,HB4.out,?_⟩
      rw[HR2.out]
      exact HT4.out
    ·have h6':((kd:Int) == 6)=false:=by simp;omega
     have HR2:Hid (refRes kd pos args a bb 0=none):=by unfold Hid;rw[HRES.out];simp[h6]
     clear HRES h6
     go_wp2_with fail
     go_quiet (fail)
     go_wp2_with fail
     refine bodyPost_end (results_none rfl _ _ _) rfl ⟨below_drewN HBW3.out _,?_⟩
     rw[HR2.out]
   ·have hkc':((kd:Int) != (code:Int))=true:=by simp;omega
    have HR2:Hid (refRes code pos args a bb 0=some (1,pos)):=by unfold Hid;rw[HRES.out,if_pos hkc]
    clear HRES hkc
    go_wp2_with fail
    refine(kh 1 pos _).mono ?_
    rintro e w4 ⟨ht,hb4⟩
    have HB4:Hid (Below w.heap.size w w4):=HBW3.out.trans (hb4.mono hszw)
    have HT4:=zh (ht.mono (B':=w.heap.size) hszw)
    obtain⟨ab,q1,rfl,q2,q3⟩:=ht.out
    clear ht hb4 q1 q2 q3
    go_wp2_with fail
    refine⟨rfl,HB4.out,?_⟩
    rw[HR2.out]
    exact HT4.out
  ·have hee':((ee:Int) != 0)=true:=by simp;omega
   have HR2:Hid (refRes code pos args a bb ee=some (ee,pos)):=by unfold Hid refRes;rw[if_pos hee]
   clear hee
   go_wp2_with fail
   refine(kh ee pos _).mono ?_
   rintro e w4 ⟨ht,hb4⟩
   have HB4:Hid (Below w.heap.size w w4):=HBW.out.trans (hb4.mono hsz)
   have HT4:=zh (ht.mono (B':=w.heap.size) hsz)
   obtain⟨ab,q1,rfl,q2,q3⟩:=ht.out
   clear ht hb4 q1 q2 q3
   go_wp2_with fail
   refine⟨rfl,HB4.out,?_⟩
   rw[HR2.out]
   exact HT4.out
theorem standV_err {S:Seen}{fs:Near}{md nm:Bs}{er:Nat}(h:Tp.standV S fs md nm=.error er):er≠0:=by
 unfold Tp.standV at h
 split at h
 ·split at h
  ·cases h;omega
  ·split at h
   ·cases h
   ·cases h;omega
 ·split at h
  ·cases h
  ·cases h;omega
theorem kU {w:World}{b:Nat}{S:Seen}{fs:Near}(h:Fnd w b S fs) (hfn:fs.length<=1000) {x:Nat}{r:Tp.R}(hx:RefB w x r) (hl:r.mod.length<=1000000) (hl2:r.name.length<=1000000) (hc:r.code<1000) :
  Calls Tryz.prog 190 #[.pointer (some ⟨x,0,none⟩),finderV b] w (CkP w (Tp.judgeP (Tp.standV S fs) r)):=by
 obtain⟨n,op,lv,rv,aa,ac,hblk⟩:=hx
 obtain⟨code,pos,md,nm,args⟩:=r
 simp only at hblk hl hl2 hc
 have hF:=fun W (hW:Below w.heap.size w W)=>vF (h.on hW) hfn md nm hl hl2
 cases hst:Tp.standV S fs md nm with
 | error er =>
  rw[hst]at hF
  have:=kT (a:=0) (bb:=0) (ee:=er) hblk hF hc
  have e1:refRes code pos args 0 0 er=Tp.judgeP (Tp.standV S fs) ⟨code,pos,md,nm,args⟩:=by
   unfold refRes Tp.judgeP
   simp only [hst]
   rw[if_pos (standV_err hst)]
  rw[<-e1]
  exact this
 | ok s =>
  obtain⟨a,bb⟩:=s
  rw[hst]at hF
  have:=kT (a:=a) (bb:=bb) (ee:=0) hblk hF hc
  have e1:refRes code pos args a bb 0=Tp.judgeP (Tp.standV S fs) ⟨code,pos,md,nm,args⟩:=by
   unfold refRes Tp.judgeP
   simp only [hst]
   rw[if_neg (by simp)]
  rw[<-e1]
  exact this
theorem CkP.up {w W w':World}{res:Option (Nat× Nat)}{e:Ending}(h:CkP W res e w') (k:Below w.heap.size w W):CkP w res e w':=by
 obtain⟨h1,h2⟩:=h
 refine⟨k.trans (h1.mono k.size),?_⟩
 cases res with
 | none=>exact h2
 | some er=>exact Thrown.mono h2 k.size
theorem jH {w:World}{b:Nat}{S:Seen}{fs:Near}(h:Fnd w b S fs) (hfn:fs.length<=1000) {code pos:Nat}{nm:Bs}{iv vv ta ea:Option Addr}{tn tc en ec:Nat}(hl:nm.length<=1000000) :
  Calls Tryz.prog 127 #[.agg #[.int .i64 (code:Int),.int .i64 (pos:Int),.string (bs nm),.pointer iv,.pointer vv,.slice ta tn tc,.slice ea en ec],finderV b] w (CkP w (Tp.judgeP (Tp.standV S fs) ⟨if iv=none then 2 else 3,pos,[],nm,0⟩)):=by
 have HC:Hid (∀ W x cd,Below w.heap.size w W->W.heap[x]?=some (.cells #[.int .i64 (cd:Nat),.int .i64 (pos:Int),.int .i64 0,.string ⟨#[]⟩,.string (bs nm),.string ⟨#[]⟩,.pointer none,.pointer none,.slice none 0 0] 111 (0,0))->cd<1000->Calls Tryz.prog 190 #[.pointer (some ⟨x,0,none⟩),finderV b] W (CkP w (Tp.judgeP (Tp.standV S fs) ⟨cd,pos,[],nm,0⟩))):=by
  intro W x cd hW hx hcd
  refine(kU (r:=⟨cd,pos,[],nm,0⟩) (h.on hW) hfn ⟨0,⟨#[]⟩,none,none,none,0,hx⟩ (by simp) hl hcd).mono ?_
  intro e w' hq
  exact hq.up hW
 unfold finderV at HC ⊢
 clear h
 cases iv with
 | none =>
  rw[if_pos rfl]
  have HC2:=zh (fun W x=>HC.out W x 2)
  clear HC
  generalize Tp.judgeP (Tp.standV S fs) ⟨2,pos,[],nm,0⟩=res at HC2 ⊢
  have hbe:∀ o1 o2,Below w.heap.size w ((w.alloc o1).alloc o2):=fun o1 o2=>(zb _ _).alloc (by simp) _
  have HBE:=zh hbe
  clear hbe
  go_enter Tryz.func127,Tryz.ntmps127
  go_wp2_with fail
  refine(HC2.out _ _ (HBE.out _ _) (by simpa using zl (w.alloc _) _) (by omega)).mono ?_
  intro e w' hq
  cases res with
  | none =>
   have HQ:=zh hq
   obtain⟨q1,q2⟩:=hq
   simp only at q2
   subst q2
   clear q1
   go_wp2_with fail
   exact bodyPost_end (results_none rfl _ _ _) rfl HQ.out
  | some er =>
   have HQ:=zh hq
   obtain⟨q1,q2⟩:=hq
   obtain⟨ab,q3,rfl,q4,q5⟩:=q2.out
   clear q1 q2 q3 q4 q5
   go_wp2_with fail
   exact⟨rfl,HQ.out⟩
 | some i0 =>
  rw[if_neg (by simp)]
  have HC2:=zh (fun W x=>HC.out W x 3)
  clear HC
  generalize Tp.judgeP (Tp.standV S fs) ⟨3,pos,[],nm,0⟩=res at HC2 ⊢
  have hbe:∀ o1 o2,Below w.heap.size w ((w.alloc o1).alloc o2):=fun o1 o2=>(zb _ _).alloc (by simp) _
  have HBE:=zh hbe
  clear hbe
  go_enter Tryz.func127,Tryz.ntmps127
  go_wp2_with fail
  refine(HC2.out _ _ (HBE.out _ _) (by simpa using zl (w.alloc _) _) (by omega)).mono ?_
  intro e w' hq
  cases res with
  | none =>
   have HQ:=zh hq
   obtain⟨q1,q2⟩:=hq
   simp only at q2
   subst q2
   clear q1
   go_wp2_with fail
   exact bodyPost_end (results_none rfl _ _ _) rfl HQ.out
  | some er =>
   have HQ:=zh hq
   obtain⟨q1,q2⟩:=hq
   obtain⟨ab,q3,rfl,q4,q5⟩:=q2.out
   clear q1 q2 q3 q4 q5
   go_wp2_with fail
   exact⟨rfl,HQ.out⟩
end Go.Proofs.YthnoedjbhbkdeaaGreatDoor
