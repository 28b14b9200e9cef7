import Derived.Test.YtibncofnnlbmcaaGreatDoorKAc
import Derived.Test.YtibncofnnlbmcaaGreatDoorKAa
set_option maxRecDepth 100000
set_option maxHeartbeats 4000000
namespace Go.Proofs.YtibncofnnlbmcaaGreatDoor
open Go.RowKit Go.Maps
open Tp (Bs X S G Pr Pt Rs Rr Own)
def FrF (w:World) (m:Tp.M) (ia ga pa ba:Option Addr) (ic gc pc bc lb vb:Nat) (sl:Bs->Nat) (w':World):Prop:=Below w.heap.size w w'/\w.heap.size<=lb/\w.heap.size<=vb/\lb≠vb/\w'.heap[lb]?=some (.cells (lcells m ia ga pa ba ic gc pc bc vb) 107 (0,0))/\Laid w' w.heap.size vb m.vars m.vars.length sl/\∀g∈m.vars,sl g.name≠lb/\sl g.name≠vb
theorem keep_of {X:Nat->Prop}{w i:World}{K J:Nat}{L:List Lo}{P:List Pt}{I:Value}{m:Tp.M}{lo:Lo}{s q x o:Option Addr}{t r y p d z:Nat}{sl:Bs->Nat}(h:WW X w K L P I J)(c:Tp.WM m)(F:(m.vars.map (·.name)).Nodup)(D:lo∈L)(k:MB w w.heap.size m s q x o t r y p)(G:FrF w m s q x o t r y p d z sl i) :
  Calls Tryz.prog 49 #[.pointer (some ⟨d,0,none⟩),.pointer (some ⟨lo.lb,0,none⟩)] i (KeepP i d z lo m sl):=by
 obtain⟨a,S,U,E,A,B,T⟩:=G
 obtain⟨⟨V,Q,Y,N,W,R,Z,O,u,v⟩,_,_,⟨n,f⟩,j⟩:=h.lo lo D
 have l:=B.map
 rw[List.take_length]at l
 have C:=zf u
 refine vW (n0:=m.vars.length) A ((Row.gls k.gl).on a) ?_ (by have:=c.gc;omega) c.gc F (fun g H=>by have:=zQ (c.g g H).n;omega) ((a.block _ C).trans u) ((Row.gls v.gl).on a) ⟨n,f.on (a.block _ f.lt)⟩ j.wm.gc j.vn E (by omega) (by have:=f.lt;omega) (fun b e=>?_) (fun b e=>?_)
 ·rw[keepF_zero]
  exact l
 ·have:=(Row.blkD k.gl e).2
  omega
 ·have:=(Row.blkD v.gl e).2
  omega
theorem swapN {X:Nat->Prop}{w:World}{d:Nat}{L:List Lo}{P:List Pt}{Y:Value}{T:Option Nat}{m:Tp.M}{f l s j:Option Addr}{g o u k:Nat}(h:WX X w d L P Y T)(hL:L.length<=10)(n1:MB w w.heap.size m f l s j g o u k)(hm:Tp.WM m){D:Nat->Prop}{c v:Nat}{lo:Lo}{p:Pt}(o1:T=some v)(hX:∀b,X b->b<w.heap.size)(g8:MapC w T L c)(hc:c<=90)(n2:MD w D m f l s j g o u k)(hD:∀b,D b->b<w.heap.size->¬X b/\¬Mut L d T Y b)(n5:Tp.nM m<=9000)(hp:Tp.partOf P m.name=some p)(h6:p.m=lo.m)(m9:lo∈L)(m8:lo.m.name=m.name)(i4:ptrV L m.name=some ⟨lo.lb,0,none⟩)(c9:Tp.WI ofS P)(g9:∀x∈Tp.ms P,Tp.nM x<=9000) :
  Calls Tryz.prog 18 #[.pointer (some ⟨d,0,none⟩),.agg (mcells (bs m.name) (.slice f m.imports.length g) (.slice l m.vars.length o) (.slice s m.procs.length u) (.slice j m.body.length k))] w (SwapQ X (Mut L d T Y) c w d (Tp.swapW ofS P m)):=by
 obtain⟨r,hr⟩:∃r,r=Tp.swapW ofS P m:=⟨_,rfl⟩
 obtain⟨ck,a9⟩:∃ck,ck=Tp.check m (Tp.seenW ofS P):=⟨_,rfl⟩
 obtain⟨U,g3⟩:∃U,U=(m.imports.any fun n=>@decide (Tp.Leads P n m.name) (Classical.propDecidable _)):=⟨_,rfl⟩
 obtain⟨ot,e0⟩:∃ot,ot=othB P m lo.m:=⟨_,rfl⟩
 have e8:U=true↔∃n∈m.imports,Tp.Leads P n m.name:=by rw[g3];simp
 have r5:Hid (∀er,ck=some er->r=⟨P,Tp.no,0,some er⟩):=fun er e=>by
  rw[hr]
  unfold Tp.swapW
  rw[hp]
  simp only
  rw[<-a9,e]
 have r6:Hid (ck=none->U=true->r=⟨P,Tp.no,0,some (11,none)⟩):=fun e e2=>by
  rw[hr]
  unfold Tp.swapW
  rw[hp]
  simp only
  rw[<-a9,e]
  exact if_pos (e8.1 e2)
 have d8:∀{e:U=false},¬∃n∈m.imports,Tp.Leads P n m.name:=fun {e} q=>by rw[e8.2 q]at e;cases e
 have r7:Hid (ck=none->U=false->ot=true->r=⟨P,Tp.no,0,some (6,none)⟩):=fun e e2 e3=>by
  rw[hr]
  unfold Tp.swapW
  rw[hp]
  simp only
  rw[<-a9,e]
  simp only
  rw[if_neg (d8 (e:=e2))]
  exact if_pos (by rw[h6];exact e0.symm.trans e3)
 have r8:Hid (ck=none->U=false->ot=false->r=⟨Tp.putM P m,Tp.no,0,none⟩/\Tp.WI ofS (Tp.putM P m)):=fun e e2 e3=>by
  have d9:othB P m p.m=false:=by rw[h6];exact e0.symm.trans e3
  refine⟨?_,Tp.WI.put ofS_ok c9 hp (a9.symm.trans e) (d8 (e:=e2)) (fun q hq n hn=>?_)⟩
  ·rw[hr]
   unfold Tp.swapW
   rw[hp]
   simp only
   rw[<-a9,e]
   simp only
   rw[if_neg (d8 (e:=e2))]
   exact if_neg (fun q=>by have:othB P m p.m=true:=q;rw[d9]at this;cases this)
  ·unfold othB at d9
   rw[List.any_eq_false]at d9
   have:=d9 q hq
   rw[Bool.not_eq_true,List.any_eq_false]at this
   simpa using this n hn
 have hz:WZ X (Mut L d T Y) c w d P:=⟨L,Y,T,h,hL,c9,fun b=>Iff.rfl,g8,g9⟩
 have e5:Hid (∀er ev z,r=⟨P,Tp.no,0,some er⟩->Below w.heap.size w z->EvT w.heap.size z (some er) ev->SwapQ X (Mut L d T Y) c w d r (.returned ev) z):=fun er ev z e J g4=>by
  rw[e]
  exact⟨ev,rfl,⟨_,(hz.on J).more (by omega),Tr.below J⟩,g4⟩
 rw[<-hr]
 have h9:=zh a9
 have o6:Hid ((m.imports.any fun n=>@decide (Tp.Leads P n m.name) (Classical.propDecidable _))=U):=g3.symm
 have o7:Hid (othB P m lo.m=ot):=e0.symm
 clear hr a9 g3 e0 e8 d8 hz h6
 have aT:=zQ hm.n
 have aH:=zf h.blk
 obtain⟨W,hW⟩:∃W,W=(w.alloc (.cells #[.pointer (some ⟨d,0,none⟩)] 47)).alloc (.cells (mcells (bs m.name) (.slice f m.imports.length g) (.slice l m.vars.length o) (.slice s m.procs.length u) (.slice j m.body.length k)) 36):=⟨_,rfl⟩
 have d3:Below w.heap.size w W:=by rw[hW];exact(zb _ _).alloc (by simp) _
 have c1:W.heap.size=w.heap.size+2:=by rw[hW];simp
 have d5:W.heap[w.heap.size]?=some (.cells #[.pointer (some ⟨d,0,none⟩)] 47 (0,0)):=by rw[hW];exact(Below.heap_alloc _ _ _ (by simp)).trans (zo _ _)
 have d4:W.heap[w.heap.size+1]?=some (.cells (mcells (bs m.name) (.slice f m.imports.length g) (.slice l m.vars.length o) (.slice s m.procs.length u) (.slice j m.body.length k)) 36 (0,0)):=by rw[hW];exact yj _ _ _
 obtain⟨a,b7⟩:∃a,a=(W.alloc (.cells #[.pointer (some ⟨lo.lb,0,none⟩)] 88)).drew:=⟨_,rfl⟩
 have d1:Below W.heap.size W a:=by rw[b7];exact(zb _ _).drew
 have n7:a.heap.size=w.heap.size+3:=by rw[b7];show (W.alloc _).heap.size=_;simp[c1]
 have g7:a.heap[w.heap.size+2]?=some (.cells #[.pointer (some ⟨lo.lb,0,none⟩)] 88 (0,0)):=by
  rw[b7]
  have:=zo W (.cells #[.pointer (some ⟨lo.lb,0,none⟩)] 88)
  rw[c1]at this
  exact this
 have o2:=(d3.block d aH).trans h.blk
 have k1:W.cell? ⟨d,1,none⟩=some (.map T):=(za o2).trans rfl
 have km:W.cell? ⟨w.heap.size+1,0,none⟩=some (.string (bs m.name)):=(za d4).trans rfl
 have kp:W.cell? ⟨w.heap.size,0,none⟩=some (.pointer (some ⟨d,0,none⟩)):=(za d5).trans rfl
 have d6:∀V,Below W.heap.size W V->(Instr.lookup 26 (.map T) (.string (bs m.name)) false).run Tryz.prog V=.ok (.pointer (some ⟨lo.lb,0,none⟩)) V:=fun V S=>by
  have:=((h.on d3).on S).look m.name (by omega)
  rw[i4]at this
  exact this
 have i1:=d6 W (Below.refl _ _)
 have i2:=d6 W.drew ((Below.refl _ _).drew)
 have i3:=d6 (W.alloc (.cells #[.pointer none] 88)).drew ((zb _ _).drew)
 have c5:=zh n1
 have s7:=zh hm.sml
 have Z:Hid (Below w.heap.size w a):=d3.trans (d1.mono (by omega))
 have a7:Hid (a.heap[w.heap.size+1]?=_):=(d1.block _ (zf d4)).trans d4
 have b3:Hid (a.heap[w.heap.size]?=_):=(d1.block _ (zf d5)).trans d5
 have aM:=zh g7
 have HM:=zh hm
 have b4:=zh h
 have aN:=zh n7
 have aL:d<W.heap.size:=by omega
 have aI:w.heap.size+1<W.heap.size:=by omega
 have aJ:w.heap.size<W.heap.size:=by omega
 have k2:a.cell? ⟨W.heap.size,0,none⟩=some (.pointer (some ⟨lo.lb,0,none⟩)):=by rw[c1];exact(za g7).trans rfl
 have m1:W.heap.size<a.heap.size:=by omega
 have s9:=zh c1
 have t4:=zh c9
 have i8:=zh g9
 have b5:Hid (lo∈L/\lo.m.name=m.name):=⟨m9,m8⟩
 have t6:=zh hX
 have p8:=zh g8
 have p9:=zh n2
 have HD:=zh hD
 have r0:=zh n5
 have HP:=zh hp
 have c8:=zh o1
 unfold mcells at *
 obtain⟨B,d7⟩:∃B,B=bs m.name:=⟨_,rfl⟩
 obtain⟨Sn,m5⟩:∃Sn,Sn=Tp.seenW ofS P:=⟨_,rfl⟩
 have e9:Hid (∀W' K,Below w.heap.size w W'->SeenV W' (.map (some K)) Sn->Calls Tryz.prog 37 #[.agg #[.string B,.slice f m.imports.length g,.slice l m.vars.length o,.slice s m.procs.length u,.slice j m.body.length k],.map (some K)] W' (CheckP W' (Tp.check m Sn))):=fun W' K aA o8=>by
  have:=yW s7.out (c5.out.up aA) o8
  unfold mcells at this
  rw[d7]
  exact this
 rw[<-d7]at hW km i1 i2 i3 a7 ⊢
 have c6:Hid (B=bs m.name):=d7
 have m0:Hid (Sn=Tp.seenW ofS P):=m5
 clear n1 hm o2 d4 d5 g7 d3 c1 d1 n7 d7 m5 h i4 d6 o1 c9 g9 m9 m8 hX g8 n2 hD n5 hp
 obtain⟨C,g6⟩:∃C,C=m.imports.length:=⟨_,rfl⟩
 obtain⟨F,g5⟩:∃F,F=m.vars.length:=⟨_,rfl⟩
 obtain⟨H,h4⟩:∃H,H=m.procs.length:=⟨_,rfl⟩
 obtain⟨E,g2⟩:∃E,E=m.body.length:=⟨_,rfl⟩
 rw[<-g6,<-g5,<-h4,<-g2]at hW a7 e9 ⊢
 have HQ:=zh (And.intro g6 (And.intro g5 (And.intro h4 g2)))
 clear g6 g5 h4 g2
 go_enter Tryz.func18,Tryz.ntmps18
 go_upto_region 1 with fail
 rw[<-hW]
 clear hW
 go_region
 all_goals
  rw[<-b7]
  clear b7 i1 i2 i3 k1 km kp
  have c0:Below a.heap.size a a.drew:=(Below.refl _ _).drew
  have a8:Hid (∀V,Below a.heap.size a V->V.cell? ⟨w.heap.size+1,0,none⟩=some (.string B)/\V.cell? ⟨w.heap.size+1,1,none⟩=some (.slice f C g)/\V.cell? ⟨w.heap.size+1,2,none⟩=some (.slice l F o)/\V.cell? ⟨w.heap.size+1,3,none⟩=some (.slice s H u)/\V.cell? ⟨w.heap.size+1,4,none⟩=some (.slice j E k)/\V.cell? ⟨w.heap.size,0,none⟩=some (.pointer (some ⟨d,0,none⟩))):=fun V S=>by
   obtain⟨a0,a1,a2,a3,a4⟩:=ym ((S.block _ (zf a7.out)).trans a7.out)
   exact⟨a0,a1,a2,a3,a4,(za ((S.block _ (zf b3.out)).trans b3.out)).trans rfl⟩
  have r9:Hid (a.drew.cell? ⟨w.heap.size+1,0,none⟩=some (.string B)/\a.drew.cell? ⟨w.heap.size+1,1,none⟩=some (.slice f C g)/\a.drew.cell? ⟨w.heap.size+1,2,none⟩=some (.slice l F o)/\a.drew.cell? ⟨w.heap.size+1,3,none⟩=some (.slice s H u)/\a.drew.cell? ⟨w.heap.size+1,4,none⟩=some (.slice j E k)/\a.drew.cell? ⟨w.heap.size,0,none⟩=some (.pointer (some ⟨d,0,none⟩))):=a8.out _ c0
  have i9:Hid (Calls Tryz.prog 38 #[.pointer (some ⟨d,0,none⟩)] a.drew fun e w2=>∃K,e=.returned (.map (some K))/\(Below a.heap.size a w2/\SeenV w2 (.map (some K)) Sn)/\(w2.cell? ⟨w.heap.size+1,0,none⟩=some (.string B)/\w2.cell? ⟨w.heap.size+1,1,none⟩=some (.slice f C g)/\w2.cell? ⟨w.heap.size+1,2,none⟩=some (.slice l F o)/\w2.cell? ⟨w.heap.size+1,3,none⟩=some (.slice s H u)/\w2.cell? ⟨w.heap.size+1,4,none⟩=some (.slice j E k)/\w2.cell? ⟨w.heap.size,0,none⟩=some (.pointer (some ⟨d,0,none⟩)))):=by
   refine(seen_any (b4.out.on (Z.out.trans (c0.mono Z.out.size))) hL).mono ?_
   rintro e w2⟨K,rfl,d0,e1⟩
   have m2:Below a.heap.size a w2:=c0.trans (d0.mono c0.size)
   exact⟨K,rfl,⟨m2,by rw[m0.out];exact e1⟩,a8.out _ m2⟩
  have h8:Hid (∀w2 K,Below a.heap.size a w2/\SeenV w2 (.map (some K)) Sn->Calls Tryz.prog 37 #[.agg #[.string B,.slice f C g,.slice l F o,.slice s H u,.slice j E k],.map (some K)] w2 fun e z=>∃ev,e=.returned ev/\(Below a.heap.size a z/\EvT a.heap.size z ck ev)/\(z.cell? ⟨w.heap.size+1,0,none⟩=some (.string B)/\z.cell? ⟨w.heap.size+1,1,none⟩=some (.slice f C g)/\z.cell? ⟨w.heap.size+1,2,none⟩=some (.slice l F o)/\z.cell? ⟨w.heap.size+1,3,none⟩=some (.slice s H u)/\z.cell? ⟨w.heap.size+1,4,none⟩=some (.slice j E k)/\z.cell? ⟨w.heap.size,0,none⟩=some (.pointer (some ⟨d,0,none⟩)))):=fun w2 K R=>by
   have:=e9.out w2 K (Z.out.trans (R.1.mono Z.out.size)) R.2
   rw[m0.out,<-h9.out]at this
   refine this.mono ?_
   intro e z hq
   obtain⟨d2,ev,he,g4⟩:=ux hq
   have m3:Below a.heap.size a z:=R.1.trans (d2.mono R.1.size)
   exact⟨ev,he,⟨m3,g4.lower R.1.size⟩,a8.out _ m3⟩
  clear c0 e9
  go_upto_region 4 with fail
  go_region_held3 (fun w'=>w'.cell? ⟨w.heap.size+1,0,none⟩=some (.string B)/\w'.cell? ⟨w.heap.size+1,1,none⟩=some (.slice f C g)/\w'.cell? ⟨w.heap.size+1,2,none⟩=some (.slice l F o)/\w'.cell? ⟨w.heap.size+1,3,none⟩=some (.slice s H u)/\w'.cell? ⟨w.heap.size+1,4,none⟩=some (.slice j E k)/\w'.cell? ⟨w.heap.size,0,none⟩=some (.pointer (some ⟨d,0,none⟩))) (with_reducible (first|exact c7.out|exact s6.out|exact r9.out)) (first|(go_at_call 38;refine i9.out.mono ?_;rintro e w2 ⟨K,rfl,d0,e1⟩;have p4:=zh d0;have s6:=zh e1;clear d0 e1)|(go_at_call 37;refine(h8.out _ _ p4.out).mono ?_;rintro e z ⟨ev,rfl,d2,n8⟩;have e4:=zh d2;have c7:=zh n8;clear d2 n8))
  clear i9 h8 a8
  have c2:Hid (Below a.heap.size a z):=e4.out.1
  cases b0:ck with
  |some er =>
   have a6:=e4.out.2
   rw[b0]at a6
   have aS:=a6.ne
   have aO:=a6.gd
   have HR:=zh (e5.out er ev z (r5.out er b0) (Z.out.trans (c2.out.mono Z.out.size)) (a6.lower Z.out.size))
   clear a6 b0
   go_wp2_with fail
   go_ret
   exact HR.out
  |none =>
   have a6:=e4.out.2
   rw[b0]at a6
   obtain rfl:ev=.nilIface:=a6
   have o5:Hid (Tp.check m (Tp.seenW ofS P)=none):=by show _=_;rw[<-h9.out];exact b0
   have f0:=zh b0
   clear b0
   have b1:Hid (Below w.heap.size w z):=Z.out.trans (c2.out.mono Z.out.size)
   have f8:Hid (Calls Tryz.prog 44 #[.slice f C g,.func (.func 45) #[] #[.pointer (some ⟨w.heap.size,0,none⟩),.pointer (some ⟨w.heap.size+1,0,none⟩)]] z fun e Q=>e=.returned (.bool U)/\Below z.heap.size z Q):=by
    have:=cyc_post (x1:=w.heap.size) (x3:=w.heap.size+1) (b4.out.on b1.out) t4.out o5.out (c5.out.up b1.out) HM.out c7.out.2.2.2.2.2 (by rw[<-c6.out];exact c7.out.1)
    rw[<-HQ.out.1,o6.out]at this
    exact this
   obtain⟨s0,s1,s2,s3,s4,s5⟩:=c7.out
   have aP:=zg s0
   have aU:=zg s5
   have aQ:=zm
   go_wp2_with fail
   refine f8.out.mono ?_
   rintro e Q⟨rfl,b8⟩
   cases U with
   |true =>
    have HR:=zh (e5.out (11,none) (.iface 44 (.int .i64 11)) Q (r6.out f0.out rfl) (b1.out.trans (b8.mono b1.out.size)) rfl)
    clear b8 s0 s1 s2 s3 s4 s5 f8
    go_wp2_with fail
    go_ret
    exact HR.out
   |false =>
    have c3:Hid (Below a.heap.size a Q):=c2.out.trans (b8.mono c2.out.size)
    have a5:Hid (Below w.heap.size w Q):=b1.out.trans (b8.mono b1.out.size)
    have a8:Hid (∀V,Below a.heap.size a V->V.heap[w.heap.size+1]?=a.heap[w.heap.size+1]?/\V.cell? ⟨w.heap.size,0,none⟩=some (.pointer (some ⟨d,0,none⟩))/\V.cell? ⟨W.heap.size,0,none⟩=some (.pointer (some ⟨lo.lb,0,none⟩))):=fun V S=>⟨S.block _ (zf a7.out),(za ((S.block _ (zf b3.out)).trans b3.out)).trans rfl,(S.cell (p:=⟨W.heap.size,0,none⟩) m1).trans k2⟩
    obtain⟨na,nc,h0⟩:=zw b4.out.nm
    have f9:Hid (Calls Tryz.prog 44 #[.slice na L.length nc,.func (.func 47) #[] #[.pointer (some ⟨w.heap.size,0,none⟩),.pointer (some ⟨W.heap.size,0,none⟩),.pointer (some ⟨w.heap.size+1,0,none⟩)]] Q fun e y=>e=.returned (.bool ot)/\Below Q.heap.size Q y):=by
     obtain⟨q1,q2,q3⟩:=a8.out Q c3.out
     have h5:=b4.out.on a5.out
     rw[h0]at h5
     have n3:=q1.trans a7.out
     rw[c6.out,HQ.out.1,HQ.out.2.1,HQ.out.2.2.1,HQ.out.2.2.2]at n3
     have:=oth_post (x1:=w.heap.size) (x2:=W.heap.size) (x3:=w.heap.size+1) h5 hL i8.out (c5.out.up a5.out) HM.out b5.out.1 b5.out.2 q2 q3 n3
     rw[o7.out]at this
     exact this
    have t5:Q.cell? ⟨w.heap.size,0,none⟩=some (.pointer (some ⟨d,0,none⟩)):=(a8.out Q c3.out).2.1
    have tn:Q.cell? ⟨d,0,none⟩=some (.slice na L.length nc):=by
     rw[(za (b4.out.on a5.out).blk).trans rfl,h0]
     rfl
    have aK:d<Q.heap.size:=by have:=a5.out.size;omega
    have aV:=zg t5
    clear b8 s0 s1 s2 s3 s4 s5 f8 h0
    generalize m4:L.length=ln at *
    have p7:=zh m4
    clear m4
    go_wp2_with fail
    refine f9.out.mono ?_
    rintro e y⟨rfl,b9⟩
    cases ot with
    |true =>
     have HR:=zh (e5.out (6,none) (.iface 44 (.int .i64 6)) y (r7.out f0.out (by simp) (by simp)) (a5.out.trans (b9.mono a5.out.size)) rfl)
     clear b9 t5 tn f9
     go_wp2_with fail
     go_ret
     exact HR.out
    |false =>
     obtain⟨n6,i5⟩:=r8.out f0.out (by simp) (by simp)
     have i0:=zh n6
     have e7:=zh i5
     clear n6 i5
     have i6:Hid (Below a.heap.size a y):=c3.out.trans (b9.mono c3.out.size)
     have b2:Hid (Below w.heap.size w y.drew):=(a5.out.trans (b9.mono a5.out.size)).drew
     clear b9 t5 tn f9
     have p3:WW X y.drew d L P Y v:=by
      have:=b4.out.on b2.out
      rw[c8.out]at this
      exact this
     have b6:=zh p3
     have o9:=c5.out.up b2.out
     have e6:=zh o9
     have g0:Hid ((m.vars.map (·.name)).Nodup):=by
      have aB:m∈Tp.ms (Tp.putM P m):=by
       obtain⟨q1,q2⟩:=Tp.part_name HP.out
       unfold Tp.ms Tp.putM
       rw[List.map_map,List.mem_map]
       exact⟨p,q1,by simp[q2]⟩
      exact(e7.out.fit jC aB HM.out).vn
     have aW:=b2.out.size
     have c4:Hid (∀V:World,y.drew.heap.size<=V.heap.size->(∀b,b<y.drew.heap.size->V.heap[b]?=y.drew.heap[b]?)->V.cell? ⟨w.heap.size+1,0,none⟩=some (.string B)/\V.cell? ⟨w.heap.size+1,1,none⟩=some (.slice f C g)/\V.cell? ⟨w.heap.size+1,2,none⟩=some (.slice l F o)/\V.cell? ⟨w.heap.size+1,3,none⟩=some (.slice s H u)/\V.cell? ⟨w.heap.size+1,4,none⟩=some (.slice j E k)/\V.cell? ⟨w.heap.size,0,none⟩=some (.pointer (some ⟨d,0,none⟩))/\V.cell? ⟨W.heap.size,0,none⟩=some (.pointer (some ⟨lo.lb,0,none⟩))/\V.cell? ⟨d,1,none⟩=some (.map (some v))):=fun V _ S=>by
      have g1:∀b,b<a.heap.size->V.heap[b]?=a.heap[b]?:=fun b J=>(S b (Nat.lt_of_lt_of_le J i6.out.size)).trans (i6.out.block b J)
      obtain⟨a0,a1,a2,a3,a4⟩:=ym ((g1 _ (zf a7.out)).trans a7.out)
      exact⟨a0,a1,a2,a3,a4,(za ((g1 _ (zf b3.out)).trans b3.out)).trans rfl,(World.cell?_of_block (w:=a) (g1 _ m1)).trans k2,(za ((S _ (zf b6.out.blk)).trans b6.out.blk)).trans rfl⟩
     have t0:Hid (y.drew.cell? ⟨w.heap.size+1,0,none⟩=some (.string B)/\y.drew.cell? ⟨w.heap.size+1,1,none⟩=some (.slice f C g)/\y.drew.cell? ⟨w.heap.size+1,2,none⟩=some (.slice l F o)/\y.drew.cell? ⟨w.heap.size+1,3,none⟩=some (.slice s H u)/\y.drew.cell? ⟨w.heap.size+1,4,none⟩=some (.slice j E k)/\y.drew.cell? ⟨w.heap.size,0,none⟩=some (.pointer (some ⟨d,0,none⟩))/\y.drew.cell? ⟨W.heap.size,0,none⟩=some (.pointer (some ⟨lo.lb,0,none⟩))/\y.drew.cell? ⟨d,1,none⟩=some (.map (some v))):=c4.out _ zn (fun _ _=>rfl)
     have p5:Hid (Calls Tryz.prog 39 #[.agg #[.string B,.slice f C g,.slice l F o,.slice s H u,.slice j E k]] y.drew fun e A=>∃G I sl,e=.returned (.pointer (some ⟨G,0,none⟩))/\(FrF y.drew m f l s j g o u k G I sl A)/\(A.cell? ⟨w.heap.size+1,0,none⟩=some (.string B)/\A.cell? ⟨w.heap.size+1,1,none⟩=some (.slice f C g)/\A.cell? ⟨w.heap.size+1,2,none⟩=some (.slice l F o)/\A.cell? ⟨w.heap.size+1,3,none⟩=some (.slice s H u)/\A.cell? ⟨w.heap.size+1,4,none⟩=some (.slice j E k)/\A.cell? ⟨w.heap.size,0,none⟩=some (.pointer (some ⟨d,0,none⟩))/\A.cell? ⟨W.heap.size,0,none⟩=some (.pointer (some ⟨lo.lb,0,none⟩))/\A.cell? ⟨d,1,none⟩=some (.map (some v)))):=by
      have:=xA e6.out HM.out g0.out
      unfold mcells at this
      rw[<-c6.out,<-HQ.out.1,<-HQ.out.2.1,<-HQ.out.2.2.1,<-HQ.out.2.2.2]at this
      refine this.mono ?_
      rintro e A⟨h1,G,I,sl,R,h3⟩
      exact⟨G,I,sl,R,⟨h1,h3⟩,c4.out _ h1.size (fun b J=>h1.block b J)⟩
     have p6:Hid (∀(A:World) G I sl,FrF y.drew m f l s j g o u k G I sl A->Calls Tryz.prog 49 #[.pointer (some ⟨G,0,none⟩),.pointer (some ⟨lo.lb,0,none⟩)] A fun e i=>e=.returned (.pointer (some ⟨G,0,none⟩))/\(FrF y.drew m f l s j g o u k G I sl A/\Ext I A i/\∃n,MapV i I n (keepF lo m sl m.vars.length))/\(i.cell? ⟨w.heap.size+1,0,none⟩=some (.string B)/\i.cell? ⟨w.heap.size+1,1,none⟩=some (.slice f C g)/\i.cell? ⟨w.heap.size+1,2,none⟩=some (.slice l F o)/\i.cell? ⟨w.heap.size+1,3,none⟩=some (.slice s H u)/\i.cell? ⟨w.heap.size+1,4,none⟩=some (.slice j E k)/\i.cell? ⟨w.heap.size,0,none⟩=some (.pointer (some ⟨d,0,none⟩))/\i.cell? ⟨W.heap.size,0,none⟩=some (.pointer (some ⟨lo.lb,0,none⟩))/\i.cell? ⟨d,1,none⟩=some (.map (some v)))):=fun A G I sl O=>by
      refine(keep_of b6.out HM.out g0.out b5.out.1 e6.out O).mono ?_
      rintro e i⟨h1,R,h3⟩
      exact⟨h1,⟨O,R,h3⟩,c4.out _ (Nat.le_trans O.1.size R.size) (fun b J=>(R.block b (Nat.lt_of_lt_of_le J O.1.size) (by have:=O.2.2.1;omega)).trans (O.1.block b J))⟩
     have p2:m.name.length<=1000000:=by have:=zQ HM.out.n;omega
     have s8:Hid (∀(A i:World) G I sl,FrF y.drew m f l s j g o u k G I sl A/\Ext I A i/\(∃n,MapV i I n (keepF lo m sl m.vars.length))->(i.cell? ⟨w.heap.size+1,0,none⟩=some (.string B)/\i.cell? ⟨w.heap.size+1,1,none⟩=some (.slice f C g)/\i.cell? ⟨w.heap.size+1,2,none⟩=some (.slice l F o)/\i.cell? ⟨w.heap.size+1,3,none⟩=some (.slice s H u)/\i.cell? ⟨w.heap.size+1,4,none⟩=some (.slice j E k)/\i.cell? ⟨w.heap.size,0,none⟩=some (.pointer (some ⟨d,0,none⟩))/\i.cell? ⟨W.heap.size,0,none⟩=some (.pointer (some ⟨lo.lb,0,none⟩))/\i.cell? ⟨d,1,none⟩=some (.map (some v)))->∃N,(N.cell? ⟨w.heap.size+1,0,none⟩=some (.string B)/\N.cell? ⟨w.heap.size+1,1,none⟩=some (.slice f C g)/\N.cell? ⟨w.heap.size+1,2,none⟩=some (.slice l F o)/\N.cell? ⟨w.heap.size+1,3,none⟩=some (.slice s H u)/\N.cell? ⟨w.heap.size+1,4,none⟩=some (.slice j E k)/\N.cell? ⟨w.heap.size,0,none⟩=some (.pointer (some ⟨d,0,none⟩))/\N.cell? ⟨W.heap.size,0,none⟩=some (.pointer (some ⟨lo.lb,0,none⟩))/\N.cell? ⟨d,1,none⟩=some (.map (some v)))/\(Instr.mapUpdate 26 (.map (some v)) (.string B) (.pointer (some ⟨G,0,none⟩))).run Tryz.prog i=.ok () N/\∃U',WZ X U' (c+1) N d (Tp.putM P m)/\Tr (Mut L d T Y) U' w N):=fun A i G I sl O t9=>by
      obtain⟨O,o3,aC⟩:=O
      obtain⟨n0,aD,n4⟩:=p8.out v c8.out
      have aF:=n4.lt
      have aG:v≠I:=by have:=O.2.2.1;omega
      have p1:MapV i v n0 (thrL L):=n4.on (((o3.block v (by have:=O.1.size;omega) aG).trans (O.1.block v (by omega))).trans (b2.out.block v aF))
      obtain⟨N,r1,r2,r3,r4⟩:=p1.store (t:=26) Tryz.underlying26 (by omega) m.name p2 (.pointer (some ⟨G,0,none⟩))
      obtain⟨f1,f2,f3,f4,f5,f6,f7⟩:=O
      have t8:∀b,D b->b<w.heap.size->¬X b/\¬Mut L d (some v) Y b:=fun b q1 q2=>by
       have:=HD.out b q1 q2
       rw[c8.out]at this
       exact this
      have p0:MD y.drew (fun b=>D b/\b<w.heap.size) m f l s j g o u k:=p9.out.mono (fun b J hl=>⟨b2.out.block b hl,J,hl⟩)
      obtain⟨s1,s2,s3⟩:=ww_swap HM.out b6.out (fun b q=>by have:=t6.out b q;omega) e7.out b5.out.1 b5.out.2 HP.out p0 (fun b J _=>t8 b J.1 J.2) f1 f2 f3 f4 f5 f6 f7 o3 aC hc r3 aD r2
      obtain⟨z0,z1,z2,z3,z4,z5,z6,z7⟩:=t9
      have aX:=s9.out
      have aE:=b6.out.tx.2.1
      refine⟨N,⟨r3.cell z0 (by show w.heap.size+1≠v;omega),r3.cell z1 (by show w.heap.size+1≠v;omega),r3.cell z2 (by show w.heap.size+1≠v;omega),r3.cell z3 (by show w.heap.size+1≠v;omega),r3.cell z4 (by show w.heap.size+1≠v;omega),r3.cell z5 (by show w.heap.size≠v;omega),r3.cell z6 (by show W.heap.size≠v;omega),r3.cell z7 (fun e=>aE e.symm)⟩,by rw[c6.out];exact r1,_,⟨_,Y,some v,s1,by rw[putL_len,p7.out];exact hL,e7.out,fun b=>Iff.rfl,s2,fun x hx=>?_⟩,?_⟩
      ·rcases Tp.put_mem hx with rfl|⟨q,_⟩
       ·exact r0.out
       ·exact i8.out x q
      ·rw[c8.out]
       exact Tr.ahead b2.out s3
     clear c4 e6 g0
     go_upto_region 11 with fail
     go_region_held3 (fun w'=>w'.cell? ⟨w.heap.size+1,0,none⟩=some (.string B)/\w'.cell? ⟨w.heap.size+1,1,none⟩=some (.slice f C g)/\w'.cell? ⟨w.heap.size+1,2,none⟩=some (.slice l F o)/\w'.cell? ⟨w.heap.size+1,3,none⟩=some (.slice s H u)/\w'.cell? ⟨w.heap.size+1,4,none⟩=some (.slice j E k)/\w'.cell? ⟨w.heap.size,0,none⟩=some (.pointer (some ⟨d,0,none⟩))/\w'.cell? ⟨W.heap.size,0,none⟩=some (.pointer (some ⟨lo.lb,0,none⟩))/\w'.cell? ⟨d,1,none⟩=some (.map (some v))) (with_reducible (first|exact t3.out|exact t2.out|exact t1.out|exact t0.out)) (first|(go_at_call 49;have _g:=i7;refine(p6.out _ _ _ _ i7.out).mono ?_;rintro e i ⟨rfl,m7,h7⟩;have t2:=zh h7;obtain⟨N,o0,aR,o4⟩:=s8.out _ _ _ _ _ m7 h7;have t7:=zh o4;have t3:=zh o0;clear m7 h7 o4 o0)|(go_at_call 39;refine p5.out.mono ?_;rintro e A ⟨G,I,sl,rfl,m6,n9⟩;have i7:=zh m6;have t1:=zh n9;clear m6 n9))
     go_wp2_with fail
     go_ret
     exact⟨_,rfl,by rw[i0.out];exact t7.out,by rw[i0.out];rfl⟩
structure AddA (c:Nat) (w:World) (wb lb:Nat) (nm:Bs) (L:List Lo) (nv:Value) (tv:Option Nat) (w':World) (tb':Nat) (nv':Value):Prop where
 blk:w'.heap[wb]?=some (.cells #[nv',.map (some tb')] 28 (0,0))
 tt:tv=some tb'\/tv=none/\w.heap.size<=tb'
 map:∃n,n<=c+1/\MapV w' tb' n (updV (thrL L) nm (.pointer (some ⟨lb,0,none⟩)))
 nm:w'.ownsRow 0 9 1 nv' (L.length+1) (strs ((L.map fun lo=>lo.m.name)++[nm]))
 nx:∀b,nv'.ownBlock=some b->(nv.ownBlock=some b\/w.heap.size<=b)/\b≠tb'/\b≠wb
 os:w'.os=w.os
 tape:w'.tape=w.tape
 output:w'.output=w.output
 size:w.heap.size<=w'.heap.size
 block:∀b,b<w.heap.size->b≠wb->tv≠some b->nv.ownBlock≠some b->w'.heap[b]?=w.heap[b]?
theorem add_fin2 {c n:Nat}{w w2 a:World}{f t d:Nat}{nm:Bs}{L:List Lo}{h i:Value}(H:f<w.heap.size)(l:Ext d w w2)(J:w2.heap.size=w.heap.size)(s:MapV w2 d (n+1) (updV (thrL L) nm (.pointer (some ⟨t,0,none⟩))))(I:n<=c)(y:a.heap[f]?=some (.cells #[h,.map (some d)] 28 (0,0)))
  (C:a.os=w2.os)(D:a.tape=w2.tape)(E:a.output=w2.output)(K:w2.heap.size<=a.heap.size)(k:∀b,b<w2.heap.size->h.ownBlock≠some b->a.heap[b]?=w2.heap[b]?)(F:a.ownsRow 0 9 1 i (L.length+1) (strs ((L.map fun lo=>lo.m.name)++[nm])))(G:∀g,i.ownBlock=some g->h.ownBlock=some g\/w2.heap.size<=g)(p:h.ownBlock≠some d)(u:h.ownBlock≠some f)(x:d≠f) :
  AddA c w f t nm L h (some d) (a.setCell ⟨f,0,none⟩ i) d i:=by
 have v:d<w2.heap.size:=s.lt
 have j:Ext f a (a.setCell ⟨f,0,none⟩ i):=(Ext.refl _ _).set 0 _
 have r:∀b,i.ownBlock=some b->(h.ownBlock=some b\/w.heap.size<=b)/\b≠d/\b≠f:=fun b k=>by
  rcases G b k with q|q
  ·exact⟨Or.inl q,fun e=>p (e ▸ q),fun e=>u (e ▸ q)⟩
  ·exact⟨Or.inr (by omega),by omega,by omega⟩
 refine⟨(zu 0 _ y).trans rfl,Or.inl rfl,⟨n+1,by omega,s.on ((zx _ x).trans (k _ v p))⟩,zH F (fun b _ _ o=>zx b (r b o).2.2),r,(j.os.trans C).trans l.os,(j.tape.trans D).trans l.tape,(j.output.trans E).trans l.output,by have:=j.size;omega,fun b z A o B=>?_⟩
 exact((zx b A).trans (k b (by omega) B)).trans (l.block b z (fun e=>o (by rw[e])))
theorem strs_snoc (l:List Bs)(n:Bs):strs l++[.string (bs n)]=strs (l++[n]):=by simp[strs]
theorem add_any {X:Nat->Prop}{c:Nat}{w:World}{a l i:Nat}{nm:Bs}{L:List Lo}{P:List Pt}{f:Value}{v1 v2 p v4 v5:Value}(h:WW X w a L P f i)(hL:L.length<=10)(o:w.heap[l]?=some (.cells #[.string (bs nm),v1,v2,p,v4,v5] 107 (0,0)))(y:l≠i)(_:f.ownBlock≠some l)(hn:nm.length<=1000000)(a4:∃n,n<=c/\MapV w i n (thrL L))(hc:c<=90) :
  Calls Tryz.prog 40 #[.pointer (some ⟨a,0,none⟩),.pointer (some ⟨l,0,none⟩)] w fun e w'=>e=.returned (.tuple #[])/\∃tb' nv',AddA c w a l nm L f (some i) w' tb' nv':=by
 obtain⟨i1,hi,a8,a9,b0⟩:=info_parts Tryz.infoString
 have b3:=Tryz.mapSome i
 have A:=h.blk
 have V:=zf A
 have a2:=zf o
 have k1:w.cell? ⟨a,1,none⟩=some (.map (some i)):=(za A).trans rfl
 have kl:w.cell? ⟨l,0,none⟩=some (.string (bs nm)):=(za o).trans rfl
 obtain⟨n0,T,S⟩:=a4
 obtain⟨w2,a5,r,d,v⟩:=(S.on (w':=w.drew) rfl).store (t:=26) Tryz.underlying26 (by omega) nm hn (.pointer (some ⟨l,0,none⟩))
 have H:=h.tx.2.1
 have F:=h.nx
 have E:f.ownBlock≠some a:=fun e=>(F _ e).2.1 rfl
 have D:f.ownBlock≠some i:=fun e=>(F _ e).2.2.1 rfl
 have x:w2.heap[a]?=some (.cells #[f,.map (some i)] 28 (0,0)):=(d.block a V (fun e=>H e.symm)).trans A
 have C:w2.heap[l]?=some (.cells #[.string (bs nm),v1,v2,p,v4,v5] 107 (0,0)):=(d.block l a2 y).trans o
 have G:w2.heap.size=w.heap.size:=v
 have W:Ext i w w2:=⟨d.os,d.tape,d.output,by omega,fun b h1 h2=>d.block b h1 h2⟩
 have B:w2.ownsRow 0 9 1 f L.length (strs (L.map fun lo=>lo.m.name)):=zH h.nm (fun b _ o ho=>d.block b o (fun e=>D (e ▸ ho)))
 have R:Hid (∀ob,(w2.alloc ob).ownsRow 0 9 1 f L.length (strs (L.map fun lo=>lo.m.name))):=fun ob=>zH B (fun b _ o _=>Below.heap_alloc _ _ _ o)
 have M:Hid (∀(k:World) (p:Value),k.heap[a]?=some (.cells #[f,.map (some i)] 28 (0,0))->k.os=w2.os->k.tape=w2.tape->k.output=w2.output->w2.heap.size<=k.heap.size->(∀b,b<w2.heap.size->f.ownBlock≠some b->k.heap[b]?=w2.heap[b]?)->k.ownsRow 0 9 1 p (L.length+1) (strs ((L.map fun lo=>lo.m.name))++[.string (bs nm)])->(∀g,p.ownBlock=some g->f.ownBlock=some g\/w2.heap.size<=g)->AddA c w a l nm L f (some i) (k.setCell ⟨a,0,none⟩ p) i p):=fun k p q o1 o2 o3 o4 J Z r3=>by
  rw[strs_snoc]at Z
  exact add_fin2 V W G r T q o1 o2 o3 o4 J Z r3 D E H
 obtain⟨I,cap,U⟩:=zw B
 have Y:w2.cell? ⟨a,0,none⟩=some f:=(za x).trans rfl
 have nl:w2.cell? ⟨l,0,none⟩=some (.string (bs nm)):=(za C).trans rfl
 have N:a<w2.heap.size:=zf x
 have a0:l<w2.heap.size:=zf C
 have O:=zh x
 have a1:∀ob,(w2.alloc ob).cell? ⟨a,0,none⟩=some f:=fun ob=>(World.cell?_of_block (w:=w2) (Below.heap_alloc _ _ _ N)).trans Y
 have b4:∀ob,(w2.alloc ob).cell? ⟨l,0,none⟩=some (.string (bs nm)):=fun ob=>(World.cell?_of_block (w:=w2) (Below.heap_alloc _ _ _ a0)).trans nl
 have Q:=zh E
 have b2:Hid ((strs (L.map fun lo=>lo.m.name)).length=L.length*1/\∀u∈strs (L.map fun lo=>lo.m.name),u.oneCell'=true):=⟨by simp[strs],fun u s=>by simp[strs]at s;obtain⟨b,_,rfl⟩:=s;rfl⟩
 clear A o S r d v x C W F D E h B T H y
 rw[U]at R M Y a1 O Q ⊢
 clear U
 have b1:=zh G
 clear G
 generalize a6:strs (L.map fun lo=>lo.m.name)=ss at *
 clear a6
 generalize L.length=ln at *
 go_enter Tryz.func40,Tryz.ntmps40
 go_upto_region 2 with fail
 go_region
 clear k1 kl a5
 go_upto_region 3 with fail
 go_region_law (first|(refine zY rfl (.tmp 27) (.tmp 33) 25 rfl 0 9 i1 (.string ⟨#[]⟩) 1 16 Tryz.underlying25 hi a8 a9 b0 rfl (by decide) (.slice I ln cap) ln ss (by simp[Act.eval]) ?hown ⟨w2.heap.size,0,none⟩ 1 1 [.string (bs nm)] (by simp[Act.eval]) rfl ?news (by intro u s;simp at s;subst s;rfl) (by unfold maxLen;omega) (by omega) (by omega) ?_;(case hown=>exact R.out _);(case news=>(intro j u K;rw[Addr.add_lit];cases j with|zero=>(simp at K;subst K;first|exact(za (zo w2 _)).trans rfl|exact(za (zo w2.drew _)).trans rfl)|succ j=>simp at K));intro b5 k r d v;obtain⟨a3,c3,a7⟩:=zw r;subst a7;have q:k.heap[a]?=some (.cells #[.slice I ln cap,.map (some i)] 28 (0,0)):=(d.block a (by simp;omega) (fun e=>Q.out e.symm)).trans ((Below.heap_alloc w2 _ a N).trans O.out);have n3:k.cell? ⟨a,0,none⟩=some (.slice I ln cap):=(za q).trans rfl;have z3:k.frozen? ⟨a,0,none⟩=false:=zi q;have HF:=zh (M.out k _ q d.os d.tape d.output (by have:=d.size;simp at this;omega) (fun b J y=>(d.block b (by simp;omega) (fun e=>y e.symm)).trans (Below.heap_alloc w2 _ b J)) r (fun g hg=>(v g hg).elim Or.inl (fun z=>Or.inr (by simp at z;omega))));clear r d v q))
 all_goals exact bodyPost_end (results_none rfl _ _ _) rfl ⟨rfl,i,_,HF.out⟩
theorem thrL_add {L:List Lo}{lo:Lo}(h:(L.find? fun x=>x.m.name==lo.m.name)=none):thrL (L++[lo])=updV (thrL L) lo.m.name (.pointer (some ⟨lo.lb,0,none⟩)):=by
 funext k
 unfold thrL updV
 rw[List.find?_append]
 by_cases a:k=lo.m.name
 ·rw[if_pos a,a,h]
  simp
 ·rw[if_neg a,List.find?_cons_of_neg (by simpa using fun e=>a e.symm)]
  simp
theorem add_gen {X:Nat->Prop}{c:Nat}{w:World}{g f:Nat}{d:Option Nat}{nm:Bs}{L:List Lo}{P:List Pt}{n:Value}{D E F G H:Value}(h:WX X w g L P n d)(y:L.length<=10)(q:w.heap[f]?=some (.cells #[.string (bs nm),D,E,F,G,H] 107 (0,0)))(i:¬Mut L g d n f)(r:nm.length<=1000000)(s:MapC w d L c)(z:c<=90) :
  Calls Tryz.prog 40 #[.pointer (some ⟨g,0,none⟩),.pointer (some ⟨f,0,none⟩)] w fun e w'=>e=.returned (.tuple #[])/\∃tb' j,AddA c w g f nm L n d w' tb' j:=by
 cases d with
 |some o=>exact add_any h y q (fun e=>i (Or.inr (Or.inr (Or.inl (by rw[e]))))) (fun e=>i (Or.inr (Or.inr (Or.inr e)))) r (s o rfl) z
 |none =>
  obtain⟨rfl,rfl,rfl,_,p⟩:=h
  have I:=zf p
  refine(add_first p q (fun e=>i (Or.inr (Or.inl e))) r).mono ?_
  rintro e w'⟨A,a,o,j,t,u,v,x,l⟩
  refine⟨A,o,j,t,Or.inr ⟨rfl,u⟩,⟨1,by omega,?_⟩,x,fun b m=>⟨Or.inr (l b m).1,(l b m).2,by have:=(l b m).1;omega⟩,a.os,a.tape,a.output,a.size,fun b B C _ _=>a.block b B C⟩
  have:thrL []=fun _=>none:=by funext k;rfl
  rw[this]
  exact v
theorem ww_add {X:Nat->Prop}{D:Nat->Prop}{c:Nat}{w G w7 Y:World}{k:Nat}{L:List Lo}{P:List Pt}{o:Value}{u:Option Nat}{m:Tp.M}{ia ga pa ba:Option Addr}{ic gc pc bc i j A:Nat}{O:Value}{sl:Bs->Nat}(hm:Tp.WM m)(h:WX X w k L P o u)(hX:∀b,X b->b<w.heap.size)(d4:Tp.WI ofS P)(a3:Tp.partOf P m.name=none)(d6:Tp.check m (Tp.seenW ofS P)=none)(d7:MD w D m ia ga pa ba ic gc pc bc)(hD:∀b,D b->b<w.heap.size->¬X b/\¬Mut L k u o b)
  (J:Below w.heap.size w G)(c6:w.heap.size<=i)(c8:w.heap.size<=j)(c5:G.heap[i]?=some (.cells (lcells m ia ga pa ba ic gc pc bc j) 107 (0,0)))(b2:Laid G w.heap.size j m.vars m.vars.length sl)(a6:∀g∈m.vars,sl g.name≠i/\sl g.name≠j)
  (U:Below G.heap.size G w7)(hc:c<=90)(s:AddA c w7 k i m.name L o u Y A O) :
  WW X Y k (L++[⟨m,i,j,sl⟩]) (P++[⟨m,Tp.fresh m⟩]) O A/\Tp.WI ofS (P++[⟨m,Tp.fresh m⟩])/\MapC Y (some A) (L++[⟨m,i,j,sl⟩]) (c+1)/\Tr (Mut L k u o) (Mut (L++[⟨m,i,j,sl⟩]) k (some A) O) w Y:=by
 have b9:Tp.WI ofS (P++[⟨m,Tp.fresh m⟩]):=Tp.WI.add (q:=⟨m,Tp.fresh m⟩) d4 a3 d6
 have b5:=h.mw
 have b0:Tp.ms (P++[⟨m,Tp.fresh m⟩])=(L++[(⟨m,i,j,sl⟩:Lo)]).map fun lo=>lo.m:=by
  unfold Tp.ms at b5 ⊢
  rw[List.map_append,List.map_append,b5]
  rfl
 have a2:(L.find? fun lo=>lo.m.name==m.name)=none:=by
  rw[List.find?_eq_none]
  intro lo f q
  have I:lo.m.name=m.name:=by simpa using q
  have c9:lo.m∈Tp.ms P:=by rw[b5];exact List.mem_map.2 ⟨lo,f,rfl⟩
  obtain⟨p,hp,d8⟩:=List.mem_map.1 c9
  have:=List.find?_eq_none.1 a3 p hp
  simp[d8,I]at this
 have a8:∀x∈(L++[(⟨m,i,j,sl⟩:Lo)]),Tp.WM x.m->Tp.FitM ((L++[(⟨m,i,j,sl⟩:Lo)]).map fun lo=>lo.m) x.m:=fun x hx t=>by
  rw[<-b0]
  exact b9.fit jC (by rw[b0];exact List.mem_map.2 ⟨x,hx,rfl⟩) t
 have e7:=J.size
 have e8:=U.size
 have e9:=s.size
 have d9:m.vars.take m.vars.length=m.vars:=List.take_length
 have N:=b2.at'
 have c0:=b2.inj
 have b3:=b2.map
 rw[d9]at N c0 b3
 have b8:∀g∈m.vars,sl g.name<G.heap.size:=fun g d=>zf (N g d).2
 have C:=fun {b:Nat} (q:Mut L k u o b)=>h.mlt q
 have f0:k<w.heap.size:=zf h.blk
 have c4:∀b,VLo (L++[⟨m,i,j,sl⟩]) b->VLo L b\/∃g∈m.vars,b=sl g.name:=by
  rintro b⟨lo,f,g,d,e⟩
  rcases List.mem_append.1 f with q|q
  ·exact Or.inl ⟨lo,q,g,d,e⟩
  ·rw[List.mem_singleton]at q
   subst q
   exact Or.inr ⟨g,d,e⟩
 have S:∀b,VLo (L++[⟨m,i,j,sl⟩]) b->VLo L b\/w.heap.size<=b/\b<G.heap.size/\b≠i/\b≠j:=fun b q=>by
  rcases c4 b q with q|⟨g,d,rfl⟩
  ·exact Or.inl q
  ·exact Or.inr ⟨(N g d).1,b8 g d,(a6 g d).1,(a6 g d).2⟩
 have e6:∀b,VLo L b->VLo (L++[⟨m,i,j,sl⟩]) b:=by
  rintro b⟨lo,f,g,d,e⟩
  exact⟨lo,List.mem_append_left _ f,g,d,e⟩
 have a7:u=some A\/w7.heap.size<=A:=s.tt.imp id (fun q=>q.2)
 have b6:∀b,O.ownBlock=some b->o.ownBlock=some b\/w7.heap.size<=b:=fun b q=>(s.nx b q).1
 have V:∀b,b<G.heap.size->¬Mut L k u o b->Y.heap[b]?=G.heap[b]?:=fun b l a1=>(s.block b (by omega) (fun e=>a1 (Or.inr (Or.inl e))) (fun e=>a1 (Or.inr (Or.inr (Or.inl e)))) (fun e=>a1 (Or.inr (Or.inr (Or.inr e))))).trans (U.block b l)
 have R:∀b,w.heap.size<=b->¬Mut L k u o b:=fun b l q=>by have:=(C q).1;omega
 have c1:=zf c5
 have c3:=b3.lt
 have a5:∀b,w.heap.size<=b->¬X b:=fun b l q=>by have:=hX b q;omega
 have c2:∀b,b<w.heap.size->¬X b->¬Mut L k u o b->StB X (L++[⟨m,i,j,sl⟩]) k A O b:=fun b l hx W=>by
  refine⟨hx,fun q=>?_,fun e=>W (Or.inr (Or.inl e)),fun e=>?_,fun e=>?_⟩
  ·rcases S b q with q|q
   ·exact W (Or.inl q)
   ·omega
  ·rcases a7 with q|q
   ·exact W (Or.inr (Or.inr (Or.inl (e ▸ q))))
   ·omega
  ·rcases b6 b e with q|q
   ·exact W (Or.inr (Or.inr (Or.inr q)))
   ·omega
 have c7:∀b,w.heap.size<=b->b<G.heap.size->(∀g∈m.vars,sl g.name≠b)->StB X (L++[⟨m,i,j,sl⟩]) k A O b:=fun b E h2 h3=>by
  refine⟨a5 b E,fun q=>?_,by omega,fun e=>?_,fun e=>?_⟩
  ·rcases c4 b q with q|⟨g,d,e⟩
   ·exact R b E (Or.inl q)
   ·exact h3 g d e.symm
  ·rcases a7 with q|q
   ·exact R b E (Or.inr (Or.inr (Or.inl (e ▸ q))))
   ·omega
  ·rcases b6 b e with q|q
   ·exact R b E (Or.inr (Or.inr (Or.inr q)))
   ·omega
 have Z:∀lo∈L,∃B,u=some B/\WW X w k L P o B:=fun lo f=>h.ww f
 have b1:∀{B b:Nat},u=some B->StB X L k B o b->¬X b/\¬Mut L k u o b:=fun Q H=>⟨H.1,fun q=>by
  rcases q with q|q|q|q
  ·exact H.2.1 q
  ·exact H.2.2.1 q
  ·rw[Q]at q;cases q;exact H.2.2.2.1 rfl
  ·exact H.2.2.2.2 q⟩
 have a9:∀b,Mut L k u o b->¬VLo L b->¬VLo (L++[⟨m,i,j,sl⟩]) b:=fun b q K q2=>by
  rcases S b q2 with z|z
  ·exact K z
  ·have:=(C q).1;omega
 have e5:u=none->L=[]:=fun e=>by subst e;exact h.1
 refine⟨⟨s.blk,⟨h.xw,?_⟩,?_,fun b l=>?_,⟨?_,?_,?_⟩,?_,fun lo f=>?_,fun b l=>?_,?_,?_,fun lo f=>?_,b0⟩,b9,?_,?_⟩
 ·refine a9 k (Or.inr (Or.inl rfl)) ?_
  rintro⟨lo,f,g,d,e⟩
  obtain⟨B,_,t⟩:=Z lo f
  exact t.xw.2 ⟨lo,f,g,d,e⟩
 ·have:=s.nm
  simpa using this
 ·obtain⟨q1,q2,q3⟩:=s.nx b l
  have d5:¬X b:=by
   rcases q1 with q|q
   ·exact(C (Or.inr (Or.inr (Or.inr q)))).2
   ·exact a5 b (by omega)
  refine⟨d5,q3,q2,fun q=>?_⟩
  rcases q1 with z|z
  ·refine a9 b (Or.inr (Or.inr (Or.inr z))) ?_ q
   rintro⟨lo,f,g,d,e⟩
   obtain⟨B,_,t⟩:=Z lo f
   exact(t.nx b z).2.2.2 ⟨lo,f,g,d,e⟩
  ·rcases S b q with y|y
   ·have:=(C (Or.inl y)).1;omega
   ·omega
 ·rcases a7 with q|q
  ·exact(C (Or.inr (Or.inr (Or.inl q)))).2
  ·exact a5 _ (by omega)
 ·rcases s.tt with q|q
  ·subst q
   exact(show WW X w k L P o A from h).tx.2.1
  ·omega
 ·rcases s.tt with q|q
  ·subst q
   exact a9 A (Or.inr (Or.inr (Or.inl rfl))) (show WW X w k L P o A from h).tx.2.2
  ·intro z
   rcases S _ z with y|y
   ·have:=(C (Or.inl y)).1;omega
   ·omega
 ·obtain⟨n,hn,b4⟩:=s.map
  refine⟨n,by omega,?_⟩
  rw[thrL_add (lo:=⟨m,i,j,sl⟩) a2]
  exact b4
 ·rcases List.mem_append.1 f with r|r
  ·obtain⟨B,Q,t⟩:=Z lo r
   obtain⟨⟨e1,d2,e3,d0,e2,d3,e4,d1,E,h2⟩,h3,h4,⟨n,h5⟩,h9⟩:=t.lo lo r
   have a0:∀b,StB X L k B o b->b<w.heap.size->Y.heap[b]?=w.heap[b]?/\StB X (L++[⟨m,i,j,sl⟩]) k A O b:=fun b H F=>⟨(V b (by omega) (b1 Q H).2).trans (J.block b F),c2 b F (b1 Q H).1 (b1 Q H).2⟩
   exact⟨⟨e1,d2,e3,d0,e2,d3,e4,d1,(a0 _ h3 (zf E)).1.trans E,h2.mono a0⟩,(a0 _ h3 (zf E)).2,(a0 _ h4 h5.lt).2,⟨n,h5.on (a0 _ h4 h5.lt).1⟩,a8 lo f h9.wm⟩
  ·rw[List.mem_singleton]at r
   subst r
   refine⟨⟨ia,ga,pa,ba,ic,gc,pc,bc,(V i c1 (R i c6)).trans c5,d7.mono (fun b l F=>⟨(V b (by omega) (hD b l F).2).trans (J.block b F),c2 b F (hD b l F).1 (hD b l F).2⟩)⟩,c7 i c6 c1 (fun g d=>(a6 g d).1),c7 j c8 c3 (fun g d=>(a6 g d).2),⟨m.vars.length,b3.on (V j c3 (R j c8))⟩,a8 _ f hm⟩
 ·rcases S b l with q|q
  ·exact⟨by have:=(C (Or.inl q)).1;omega,(C (Or.inl q)).2⟩
  ·exact⟨by omega,a5 b q.1⟩
 ·rw[List.map_append,List.nodup_append]
  refine⟨h.nd,by simp,fun a ha b l e=>?_⟩
  obtain⟨lo,f,rfl⟩:=List.mem_map.1 ha
  simp at l
  have:=List.find?_eq_none.1 a2 lo f
  simp[e.trans l]at this
 ·intro lo f b7 r g d T a4 e
  rcases List.mem_append.1 f with q|q<;>rcases List.mem_append.1 r with I|I
  ·obtain⟨B,_,t⟩:=Z lo q
   exact t.inj lo q b7 I g d T a4 e
  ·rw[List.mem_singleton]at I
   subst I
   have E:=(C (Or.inl ⟨lo,q,g,d,rfl⟩)).1
   have h2:=(N T a4).1
   have e':lo.sl g.name=sl T.name:=e
   omega
  ·rw[List.mem_singleton]at q
   subst q
   have E:=(C (Or.inl ⟨b7,I,T,a4,rfl⟩)).1
   have h2:=(N g d).1
   have e':sl g.name=b7.sl T.name:=e
   omega
  ·rw[List.mem_singleton]at q I
   subst q
   subst I
   exact⟨rfl,c0 g d T a4 e⟩
 ·rcases List.mem_append.1 f with r|r
  ·obtain⟨B,Q,t⟩:=Z lo r
   obtain⟨p,p1,p2,p3⟩:=t.vals lo r
   have a1:lo.m.name≠m.name:=fun e=>by
    have:=List.find?_eq_none.1 a2 lo r
    simp[e]at this
   refine⟨p,(Tp.part_last (q:=⟨m,Tp.fresh m⟩) a1).trans p1,p2,fun g d=>⟨(p3 g d).1,?_,(p3 g d).2.2⟩⟩
   have K:VLo L (lo.sl g.name):=⟨lo,r,g,d,rfl⟩
   have F:=(t.sv _ K).1
   refine(((s.block _ (by omega) (fun e=>?_) (fun e=>?_) (fun e=>?_)).trans (U.block _ (by omega))).trans (J.block _ F)).trans (p3 g d).2.1
   ·exact t.xw.2 (e ▸ K)
   ·rw[Q]at e;cases e;exact t.tx.2.2 K
   ·exact(t.nx _ e).2.2.2 K
  ·rw[List.mem_singleton]at r
   subst r
   have e0:=(a8 _ f hm).vn
   refine⟨⟨m,Tp.fresh m⟩,?_,rfl,fun g d=>?_⟩
   ·unfold Tp.partOf at a3 ⊢
    rw[List.find?_append,a3]
    simp
   ·simp only
    rw[x9 e0 d]
    refine⟨by simp,?_,fun v K=>?_⟩
    ·exact(V _ (b8 g d) (R _ (N g d).1)).trans (N g d).2
    ·rw[(List.mem_replicate.1 K).2];decide
 ·intro B e
  cases e
  obtain⟨n,hn,b4⟩:=s.map
  refine⟨n,by omega,?_⟩
  rw[thrL_add (lo:=⟨m,i,j,sl⟩) a2]
  exact b4
 ·refine⟨(s.os.trans U.os).trans J.os,(s.tape.trans U.tape).trans J.tape,(s.output.trans U.output).trans J.output,by omega,fun b l W=>(V b (by omega) W).trans (J.block b l),fun b l=>?_⟩
  rcases l with q|q|q|q
  ·rcases S b q with y|y
   ·exact Or.inl (Or.inl y)
   ·exact Or.inr y.1
  ·exact Or.inl (Or.inr (Or.inl q))
  ·cases q
   rcases a7 with y|y
   ·exact Or.inl (Or.inr (Or.inr (Or.inl y)))
   ·exact Or.inr (by omega)
  ·rcases b6 b q with y|y
   ·exact Or.inl (Or.inr (Or.inr (Or.inr y)))
   ·exact Or.inr (by omega)
end Go.Proofs.YtibncofnnlbmcaaGreatDoor
