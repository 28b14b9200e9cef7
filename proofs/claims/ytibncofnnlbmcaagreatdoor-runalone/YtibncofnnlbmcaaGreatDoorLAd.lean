import Derived.Test.YtibncofnnlbmcaaGreatDoorLAc
import Derived.Test.YtibncofnnlbmcaaGreatDoorLAa
set_option maxRecDepth 100000
set_option maxHeartbeats 4000000
namespace Go.Proofs.YtibncofnnlbmcaaGreatDoor
open Go.RowKit Go.Maps
open Tp (Bs X S G Pr Pt Rs Rr Own)
def FrF (w:World) (m:Tp.M) (ia ga pa ba:Option Addr) (ic gc pc bc lb vb:Nat) (sl:Bs->Nat) (w':World):Prop:=Below w.heap.size w w'/\w.heap.size<=lb/\w.heap.size<=vb/\lb≠vb/\w'.heap[lb]?=some (.cells (lcells m ia ga pa ba ic gc pc bc vb) 107 (0,0))/\Laid w' w.heap.size vb m.vars m.vars.length sl/\∀g∈m.vars,sl g.name≠lb/\sl g.name≠vb
theorem keep_of {X:Nat->Prop}{w i:World}{J H:Nat}{L:List Lo}{P:List Pt}{K:Value}{m:Tp.M}{lo:Lo}{q y z s:Option Addr}{r o u x f p:Nat}{sl:Bs->Nat}(h:WW X w J L P K H)(c:Tp.WM m)(F:(m.vars.map (·.name)).Nodup)(E:lo∈L)(l:MB w w.heap.size m q y z s r o u x)(I:FrF w m q y z s r o u x f p sl i) :
  Calls Tryz.prog 49 #[.pointer (some ⟨f,0,none⟩),.pointer (some ⟨lo.lb,0,none⟩)] i (KeepP i f p lo m sl):=by
 obtain⟨a,Z,Y,D,B,C,U⟩:=I
 obtain⟨⟨V,S,N,W,O,R,Q,T,v,t⟩,_,_,⟨n,d⟩,j⟩:=h.lo lo E
 have k:=C.map
 rw[List.take_length]at k
 have A:=zf v
 refine vN (n0:=m.vars.length) B ((Row.gls l.gl).on a) ?_ (by have:=c.gc;omega) c.gc F (fun g G=>by have:=zQ (c.g g G).n;omega) ((a.block _ A).trans v) ((Row.gls t.gl).on a) ⟨n,d.on (a.block _ d.lt)⟩ j.wm.gc j.vn D (by omega) (by have:=d.lt;omega) (fun b e=>?_) (fun b e=>?_)
 ·rw[keepF_zero]
  exact k
 ·have:=(Row.blkD l.gl e).2
  omega
 ·have:=(Row.blkD t.gl e).2
  omega
theorem swapN {X:Nat->Prop}{w:World}{d:Nat}{L:List Lo}{P:List Pt}{U:Value}{R:Option Nat}{m:Tp.M}{g v j s:Option Addr}{i l k u:Nat}(h:WX X w d L P U R)(hL:L.length<=10)(n3:MB w w.heap.size m g v j s i l k u)(hm:Tp.WM m){D:Nat->Prop}{c o:Nat}{lo:Lo}{p:Pt}(n6:R=some o)(hX:∀b,X b->b<w.heap.size)(f8:MapC w R L c)(hc:c<=90)(n2:MD w D m g v j s i l k u)(hD:∀b,D b->b<w.heap.size->¬X b/\¬Mut L d R U b)(i7:Tp.nM m<=1000)(hp:Tp.partOf P m.name=some p)(f0:p.m=lo.m)(m5:lo∈L)(i9:lo.m.name=m.name)(i0:ptrV L m.name=some ⟨lo.lb,0,none⟩)(e1:Tp.WI ofS P)(h6:∀x∈Tp.ms P,Tp.nM x<=1000) :
  Calls Tryz.prog 18 #[.pointer (some ⟨d,0,none⟩),.agg (mcells (bs m.name) (.slice g m.imports.length i) (.slice v m.vars.length l) (.slice j m.procs.length k) (.slice s m.body.length u))] w (SwapQ X (Mut L d R U) c w d (Tp.swapW ofS P m)):=by
 obtain⟨r,hr⟩:∃r,r=Tp.swapW ofS P m:=⟨_,rfl⟩
 obtain⟨ck,a9⟩:∃ck,ck=Tp.check m (Tp.seenW ofS P):=⟨_,rfl⟩
 obtain⟨Y,g3⟩:∃Y,Y=(m.imports.any fun n=>@decide (Tp.Leads P n m.name) (Classical.propDecidable _)):=⟨_,rfl⟩
 obtain⟨ot,c2⟩:∃ot,ot=othB P m lo.m:=⟨_,rfl⟩
 have e4:Y=true↔∃n∈m.imports,Tp.Leads P n m.name:=by rw[g3];simp
 have aE:Hid (∀er,ck=some er->r=⟨P,Tp.no,0,some er⟩):=fun er e=>by
  rw[hr]
  unfold Tp.swapW
  rw[hp]
  simp only
  rw[<-a9,e]
 have r0:Hid (ck=none->Y=true->r=⟨P,Tp.no,0,some (11,none)⟩):=fun e e2=>by
  rw[hr]
  unfold Tp.swapW
  rw[hp]
  simp only
  rw[<-a9,e]
  exact if_pos (e4.1 e2)
 have d2:∀{e:Y=false},¬∃n∈m.imports,Tp.Leads P n m.name:=fun {e} q=>by rw[e4.2 q]at e;cases e
 have t3:Hid (ck=none->Y=false->ot=true->r=⟨P,Tp.no,0,some (6,none)⟩):=fun e e2 e3=>by
  rw[hr]
  unfold Tp.swapW
  rw[hp]
  simp only
  rw[<-a9,e]
  simp only
  rw[if_neg (d2 (e:=e2))]
  exact if_pos (by rw[f0];exact c2.symm.trans e3)
 have t6:Hid (ck=none->Y=false->ot=false->r=⟨Tp.putM P m,Tp.no,0,none⟩/\Tp.WI ofS (Tp.putM P m)):=fun e e2 e3=>by
  have c7:othB P m p.m=false:=by rw[f0];exact c2.symm.trans e3
  refine⟨?_,Tp.WI.put ofS_ok e1 hp (a9.symm.trans e) (d2 (e:=e2)) (fun q hq n hn=>?_)⟩
  ·rw[hr]
   unfold Tp.swapW
   rw[hp]
   simp only
   rw[<-a9,e]
   simp only
   rw[if_neg (d2 (e:=e2))]
   exact if_neg (fun q=>by have:othB P m p.m=true:=q;rw[c7]at this;cases this)
  ·unfold othB at c7
   rw[List.any_eq_false]at c7
   have:=c7 q hq
   rw[Bool.not_eq_true,List.any_eq_false]at this
   simpa using this n hn
 have hz:WZ X (Mut L d R U) c w d P:=⟨L,U,R,h,hL,e1,fun b=>Iff.rfl,f8,h6⟩
 have e8:Hid (∀er ev z,r=⟨P,Tp.no,0,some er⟩->Below w.heap.size w z->EvT w.heap.size z (some er) ev->SwapQ X (Mut L d R U) c w d r (.returned ev) z):=fun er ev z e J g2=>by
  rw[e]
  exact⟨ev,rfl,⟨_,(hz.on J).more (by omega),Tr.below J⟩,g2⟩
 rw[<-hr]
 have i1:=zh a9
 have p0:Hid ((m.imports.any fun n=>@decide (Tp.Leads P n m.name) (Classical.propDecidable _))=Y):=g3.symm
 have p3:Hid (othB P m lo.m=ot):=c2.symm
 clear hr a9 g3 c2 e4 d2 hz f0
 have aT:=zQ hm.n
 have t7:=zf h.blk
 obtain⟨W,hW⟩:∃W,W=(w.alloc (.cells #[.pointer (some ⟨d,0,none⟩)] 47)).alloc (.cells (mcells (bs m.name) (.slice g m.imports.length i) (.slice v m.vars.length l) (.slice j m.procs.length k) (.slice s m.body.length u)) 36):=⟨_,rfl⟩
 have c6:Below w.heap.size w W:=by rw[hW];exact(zb _ _).alloc (by simp) _
 have b8:W.heap.size=w.heap.size+2:=by rw[hW];simp
 have c9:W.heap[w.heap.size]?=some (.cells #[.pointer (some ⟨d,0,none⟩)] 47 (0,0)):=by rw[hW];exact(Below.heap_alloc _ _ _ (by simp)).trans (zo _ _)
 have d9:W.heap[w.heap.size+1]?=some (.cells (mcells (bs m.name) (.slice g m.imports.length i) (.slice v m.vars.length l) (.slice j m.procs.length k) (.slice s m.body.length u)) 36 (0,0)):=by rw[hW];exact yj _ _ _
 obtain⟨a,b6⟩:∃a,a=(W.alloc (.cells #[.pointer (some ⟨lo.lb,0,none⟩)] 88)).drew:=⟨_,rfl⟩
 have d8:Below W.heap.size W a:=by rw[b6];exact(zb _ _).drew
 have m2:a.heap.size=w.heap.size+3:=by rw[b6];show (W.alloc _).heap.size=_;simp[b8]
 have g7:a.heap[w.heap.size+2]?=some (.cells #[.pointer (some ⟨lo.lb,0,none⟩)] 88 (0,0)):=by
  rw[b6]
  have:=zo W (.cells #[.pointer (some ⟨lo.lb,0,none⟩)] 88)
  rw[b8]at this
  exact this
 have m6:=(c6.block d t7).trans h.blk
 have k1:W.cell? ⟨d,1,none⟩=some (.map R):=(za m6).trans rfl
 have km:W.cell? ⟨w.heap.size+1,0,none⟩=some (.string (bs m.name)):=(za d9).trans rfl
 have kp:W.cell? ⟨w.heap.size,0,none⟩=some (.pointer (some ⟨d,0,none⟩)):=(za c9).trans rfl
 have c5:∀V,Below W.heap.size W V->(Instr.lookup 26 (.map R) (.string (bs m.name)) false).run Tryz.prog V=.ok (.pointer (some ⟨lo.lb,0,none⟩)) V:=fun V T=>by
  have:=((h.on c6).on T).look m.name (by omega)
  rw[i0]at this
  exact this
 have i5:=c5 W (Below.refl _ _)
 have i2:=c5 W.drew ((Below.refl _ _).drew)
 have i4:=c5 (W.alloc (.cells #[.pointer none] 88)).drew ((zb _ _).drew)
 have d5:=zh n3
 have t1:=zh hm.sml
 have Z:Hid (Below w.heap.size w a):=c6.trans (d8.mono (by omega))
 have a7:Hid (a.heap[w.heap.size+1]?=_):=(d8.block _ (zf d9)).trans d9
 have b4:Hid (a.heap[w.heap.size]?=_):=(d8.block _ (zf c9)).trans c9
 have aS:=zh g7
 have HM:=zh hm
 have b3:=zh h
 have aO:=zh m2
 have aI:d<W.heap.size:=by omega
 have aJ:w.heap.size+1<W.heap.size:=by omega
 have aL:w.heap.size<W.heap.size:=by omega
 have k2:a.cell? ⟨W.heap.size,0,none⟩=some (.pointer (some ⟨lo.lb,0,none⟩)):=by rw[b8];exact(za g7).trans rfl
 have m0:W.heap.size<a.heap.size:=by omega
 have r8:=zh b8
 have r7:=zh e1
 have n9:=zh h6
 have c0:Hid (lo∈L/\lo.m.name=m.name):=⟨m5,i9⟩
 have p8:=zh hX
 have r5:=zh f8
 have s9:=zh n2
 have HD:=zh hD
 have t2:=zh i7
 have HP:=zh hp
 have d4:=zh n6
 unfold mcells at *
 obtain⟨B,d1⟩:∃B,B=bs m.name:=⟨_,rfl⟩
 obtain⟨Sn,i8⟩:∃Sn,Sn=Tp.seenW ofS P:=⟨_,rfl⟩
 have e9:Hid (∀W' K,Below w.heap.size w W'->SeenV W' (.map (some K)) Sn->Calls Tryz.prog 37 #[.agg #[.string B,.slice g m.imports.length i,.slice v m.vars.length l,.slice j m.procs.length k,.slice s m.body.length u],.map (some K)] W' (CheckP W' (Tp.check m Sn))):=fun W' K aB p1=>by
  have:=yU t1.out (d5.out.up aB) p1
  unfold mcells at this
  rw[d1]
  exact this
 rw[<-d1]at hW km i5 i2 i4 a7 ⊢
 have c3:Hid (B=bs m.name):=d1
 have n8:Hid (Sn=Tp.seenW ofS P):=i8
 clear n3 hm m6 d9 c9 g7 c6 b8 d8 m2 d1 i8 h i0 c5 n6 e1 h6 m5 i9 hX f8 n2 hD i7 hp
 obtain⟨C,g5⟩:∃C,C=m.imports.length:=⟨_,rfl⟩
 obtain⟨F,g0⟩:∃F,F=m.vars.length:=⟨_,rfl⟩
 obtain⟨G,h7⟩:∃G,G=m.procs.length:=⟨_,rfl⟩
 obtain⟨E,g8⟩:∃E,E=m.body.length:=⟨_,rfl⟩
 rw[<-g5,<-g0,<-h7,<-g8]at hW a7 e9 ⊢
 have HQ:=zh (And.intro g5 (And.intro g0 (And.intro h7 g8)))
 clear g5 g0 h7 g8
 go_enter Tryz.func18,Tryz.ntmps18
 go_upto_region 1 with fail
 rw[<-hW]
 clear hW
 go_region
 all_goals
  rw[<-b6]
  clear b6 i5 i2 i4 k1 km kp
  have b9:Below a.heap.size a a.drew:=(Below.refl _ _).drew
  have a8:Hid (∀V,Below a.heap.size a V->V.cell? ⟨w.heap.size+1,0,none⟩=some (.string B)/\V.cell? ⟨w.heap.size+1,1,none⟩=some (.slice g C i)/\V.cell? ⟨w.heap.size+1,2,none⟩=some (.slice v F l)/\V.cell? ⟨w.heap.size+1,3,none⟩=some (.slice j G k)/\V.cell? ⟨w.heap.size+1,4,none⟩=some (.slice s E u)/\V.cell? ⟨w.heap.size,0,none⟩=some (.pointer (some ⟨d,0,none⟩))):=fun V T=>by
   obtain⟨a0,a1,a2,a3,a4⟩:=ym ((T.block _ (zf a7.out)).trans a7.out)
   exact⟨a0,a1,a2,a3,a4,(za ((T.block _ (zf b4.out)).trans b4.out)).trans rfl⟩
  have r6:Hid (a.drew.cell? ⟨w.heap.size+1,0,none⟩=some (.string B)/\a.drew.cell? ⟨w.heap.size+1,1,none⟩=some (.slice g C i)/\a.drew.cell? ⟨w.heap.size+1,2,none⟩=some (.slice v F l)/\a.drew.cell? ⟨w.heap.size+1,3,none⟩=some (.slice j G k)/\a.drew.cell? ⟨w.heap.size+1,4,none⟩=some (.slice s E u)/\a.drew.cell? ⟨w.heap.size,0,none⟩=some (.pointer (some ⟨d,0,none⟩))):=a8.out _ b9
  have m3:Hid (Calls Tryz.prog 38 #[.pointer (some ⟨d,0,none⟩)] a.drew fun e w2=>∃K,e=.returned (.map (some K))/\(Below a.heap.size a w2/\SeenV w2 (.map (some K)) Sn)/\(w2.cell? ⟨w.heap.size+1,0,none⟩=some (.string B)/\w2.cell? ⟨w.heap.size+1,1,none⟩=some (.slice g C i)/\w2.cell? ⟨w.heap.size+1,2,none⟩=some (.slice v F l)/\w2.cell? ⟨w.heap.size+1,3,none⟩=some (.slice j G k)/\w2.cell? ⟨w.heap.size+1,4,none⟩=some (.slice s E u)/\w2.cell? ⟨w.heap.size,0,none⟩=some (.pointer (some ⟨d,0,none⟩)))):=by
   refine(seen_any (b3.out.on (Z.out.trans (b9.mono Z.out.size))) hL).mono ?_
   rintro e w2⟨K,rfl,c8,d6⟩
   have i6:Below a.heap.size a w2:=b9.trans (c8.mono b9.size)
   exact⟨K,rfl,⟨i6,by rw[n8.out];exact d6⟩,a8.out _ i6⟩
  have i3:Hid (∀w2 K,Below a.heap.size a w2/\SeenV w2 (.map (some K)) Sn->Calls Tryz.prog 37 #[.agg #[.string B,.slice g C i,.slice v F l,.slice j G k,.slice s E u],.map (some K)] w2 fun e z=>∃ev,e=.returned ev/\(Below a.heap.size a z/\EvT a.heap.size z ck ev)/\(z.cell? ⟨w.heap.size+1,0,none⟩=some (.string B)/\z.cell? ⟨w.heap.size+1,1,none⟩=some (.slice g C i)/\z.cell? ⟨w.heap.size+1,2,none⟩=some (.slice v F l)/\z.cell? ⟨w.heap.size+1,3,none⟩=some (.slice j G k)/\z.cell? ⟨w.heap.size+1,4,none⟩=some (.slice s E u)/\z.cell? ⟨w.heap.size,0,none⟩=some (.pointer (some ⟨d,0,none⟩)))):=fun w2 K S=>by
   have:=e9.out w2 K (Z.out.trans (S.1.mono Z.out.size)) S.2
   rw[n8.out,<-i1.out]at this
   refine this.mono ?_
   intro e z hq
   obtain⟨d7,ev,he,g2⟩:=ui hq
   have o0:Below a.heap.size a z:=S.1.trans (d7.mono S.1.size)
   exact⟨ev,he,⟨o0,g2.lower S.1.size⟩,a8.out _ o0⟩
  clear b9 e9
  go_upto_region 4 with fail
  go_region_held3 (fun w'=>w'.cell? ⟨w.heap.size+1,0,none⟩=some (.string B)/\w'.cell? ⟨w.heap.size+1,1,none⟩=some (.slice g C i)/\w'.cell? ⟨w.heap.size+1,2,none⟩=some (.slice v F l)/\w'.cell? ⟨w.heap.size+1,3,none⟩=some (.slice j G k)/\w'.cell? ⟨w.heap.size+1,4,none⟩=some (.slice s E u)/\w'.cell? ⟨w.heap.size,0,none⟩=some (.pointer (some ⟨d,0,none⟩))) (with_reducible (first|exact d0.out|exact p6.out|exact r6.out)) (first|(go_at_call 38;refine m3.out.mono ?_;rintro e w2 ⟨K,rfl,c8,d6⟩;have t0:=zh c8;have p6:=zh d6;clear c8 d6)|(go_at_call 37;refine(i3.out _ _ t0.out).mono ?_;rintro e z ⟨ev,rfl,d7,n4⟩;have e5:=zh d7;have d0:=zh n4;clear d7 n4))
  clear m3 i3 a8
  have d3:Hid (Below a.heap.size a z):=e5.out.1
  cases b0:ck with
  |some er =>
   have a6:=e5.out.2
   rw[b0]at a6
   have aW:=a6.ne
   have aX:=a6.gd
   have HR:=zh (e8.out er ev z (aE.out er b0) (Z.out.trans (d3.out.mono Z.out.size)) (a6.lower Z.out.size))
   clear a6 b0
   go_wp2_with fail
   go_ret
   exact HR.out
  |none =>
   have a6:=e5.out.2
   rw[b0]at a6
   obtain rfl:ev=.nilIface:=a6
   have o5:Hid (Tp.check m (Tp.seenW ofS P)=none):=by show _=_;rw[<-i1.out];exact b0
   have f9:=zh b0
   clear b0
   have b1:Hid (Below w.heap.size w z):=Z.out.trans (d3.out.mono Z.out.size)
   have g4:Hid (Calls Tryz.prog 44 #[.slice g C i,.func (.func 45) #[] #[.pointer (some ⟨w.heap.size,0,none⟩),.pointer (some ⟨w.heap.size+1,0,none⟩)]] z fun e O=>e=.returned (.bool Y)/\Below z.heap.size z O):=by
    have:=cyc_post (x1:=w.heap.size) (x3:=w.heap.size+1) (b3.out.on b1.out) r7.out o5.out (d5.out.up b1.out) HM.out d0.out.2.2.2.2.2 (by rw[<-c3.out];exact d0.out.1)
    rw[<-HQ.out.1,p0.out]at this
    exact this
   obtain⟨s0,s1,s2,s3,s4,s5⟩:=d0.out
   have aV:=zg s0
   have aN:=zg s5
   have aQ:=zm
   go_wp2_with fail
   refine g4.out.mono ?_
   rintro e O⟨rfl,b5⟩
   cases Y with
   |true =>
    have HR:=zh (e8.out (11,none) (.iface 44 (.int .i64 11)) O (r0.out f9.out rfl) (b1.out.trans (b5.mono b1.out.size)) rfl)
    clear b5 s0 s1 s2 s3 s4 s5 g4
    go_wp2_with fail
    go_ret
    exact HR.out
   |false =>
    have e0:Hid (Below a.heap.size a O):=d3.out.trans (b5.mono d3.out.size)
    have a5:Hid (Below w.heap.size w O):=b1.out.trans (b5.mono b1.out.size)
    have a8:Hid (∀V,Below a.heap.size a V->V.heap[w.heap.size+1]?=a.heap[w.heap.size+1]?/\V.cell? ⟨w.heap.size,0,none⟩=some (.pointer (some ⟨d,0,none⟩))/\V.cell? ⟨W.heap.size,0,none⟩=some (.pointer (some ⟨lo.lb,0,none⟩))):=fun V T=>⟨T.block _ (zf a7.out),(za ((T.block _ (zf b4.out)).trans b4.out)).trans rfl,(T.cell (p:=⟨W.heap.size,0,none⟩) m0).trans k2⟩
    obtain⟨na,nc,h4⟩:=zw b3.out.nm
    have h0:Hid (Calls Tryz.prog 44 #[.slice na L.length nc,.func (.func 47) #[] #[.pointer (some ⟨w.heap.size,0,none⟩),.pointer (some ⟨W.heap.size,0,none⟩),.pointer (some ⟨w.heap.size+1,0,none⟩)]] O fun e y=>e=.returned (.bool ot)/\Below O.heap.size O y):=by
     obtain⟨q1,q2,q3⟩:=a8.out O e0.out
     have h5:=b3.out.on a5.out
     rw[h4]at h5
     have o4:=q1.trans a7.out
     rw[c3.out,HQ.out.1,HQ.out.2.1,HQ.out.2.2.1,HQ.out.2.2.2]at o4
     have:=oth_post (x1:=w.heap.size) (x2:=W.heap.size) (x3:=w.heap.size+1) h5 hL n9.out (d5.out.up a5.out) HM.out c0.out.1 c0.out.2 q2 q3 o4
     rw[p3.out]at this
     exact this
    have t5:O.cell? ⟨w.heap.size,0,none⟩=some (.pointer (some ⟨d,0,none⟩)):=(a8.out O e0.out).2.1
    have tn:O.cell? ⟨d,0,none⟩=some (.slice na L.length nc):=by
     rw[(za (b3.out.on a5.out).blk).trans rfl,h4]
     rfl
    have aK:d<O.heap.size:=by have:=a5.out.size;omega
    have aU:=zg t5
    clear b5 s0 s1 s2 s3 s4 s5 g4 h4
    generalize n5:L.length=ln at *
    have s7:=zh n5
    clear n5
    go_wp2_with fail
    refine h0.out.mono ?_
    rintro e y⟨rfl,b7⟩
    cases ot with
    |true =>
     have HR:=zh (e8.out (6,none) (.iface 44 (.int .i64 6)) y (t3.out f9.out (by simp) (by simp)) (a5.out.trans (b7.mono a5.out.size)) rfl)
     clear b7 t5 tn h0
     go_wp2_with fail
     go_ret
     exact HR.out
    |false =>
     obtain⟨o1,h9⟩:=t6.out f9.out (by simp) (by simp)
     have h8:=zh o1
     have e6:=zh h9
     clear o1 h9
     have m9:Hid (Below a.heap.size a y):=e0.out.trans (b7.mono e0.out.size)
     have b2:Hid (Below w.heap.size w y.drew):=(a5.out.trans (b7.mono a5.out.size)).drew
     clear b7 t5 tn h0
     have o6:WW X y.drew d L P U o:=by
      have:=b3.out.on b2.out
      rw[d4.out]at this
      exact this
     have c1:=zh o6
     have o7:=d5.out.up b2.out
     have e7:=zh o7
     have g1:Hid ((m.vars.map (·.name)).Nodup):=by
      have s6:m∈Tp.ms (Tp.putM P m):=by
       obtain⟨q1,q2⟩:=Tp.part_name HP.out
       unfold Tp.ms Tp.putM
       rw[List.map_map,List.mem_map]
       exact⟨p,q1,by simp[q2]⟩
      exact(e6.out.fit jx s6 HM.out).vn
     have aR:=b2.out.size
     have c4:Hid (∀V:World,y.drew.heap.size<=V.heap.size->(∀b,b<y.drew.heap.size->V.heap[b]?=y.drew.heap[b]?)->V.cell? ⟨w.heap.size+1,0,none⟩=some (.string B)/\V.cell? ⟨w.heap.size+1,1,none⟩=some (.slice g C i)/\V.cell? ⟨w.heap.size+1,2,none⟩=some (.slice v F l)/\V.cell? ⟨w.heap.size+1,3,none⟩=some (.slice j G k)/\V.cell? ⟨w.heap.size+1,4,none⟩=some (.slice s E u)/\V.cell? ⟨w.heap.size,0,none⟩=some (.pointer (some ⟨d,0,none⟩))/\V.cell? ⟨W.heap.size,0,none⟩=some (.pointer (some ⟨lo.lb,0,none⟩))/\V.cell? ⟨d,1,none⟩=some (.map (some o))):=fun V _ T=>by
      have g6:∀b,b<a.heap.size->V.heap[b]?=a.heap[b]?:=fun b J=>(T b (Nat.lt_of_lt_of_le J m9.out.size)).trans (m9.out.block b J)
      obtain⟨a0,a1,a2,a3,a4⟩:=ym ((g6 _ (zf a7.out)).trans a7.out)
      exact⟨a0,a1,a2,a3,a4,(za ((g6 _ (zf b4.out)).trans b4.out)).trans rfl,(World.cell?_of_block (w:=a) (g6 _ m0)).trans k2,(za ((T _ (zf c1.out.blk)).trans c1.out.blk)).trans rfl⟩
     have p5:Hid (y.drew.cell? ⟨w.heap.size+1,0,none⟩=some (.string B)/\y.drew.cell? ⟨w.heap.size+1,1,none⟩=some (.slice g C i)/\y.drew.cell? ⟨w.heap.size+1,2,none⟩=some (.slice v F l)/\y.drew.cell? ⟨w.heap.size+1,3,none⟩=some (.slice j G k)/\y.drew.cell? ⟨w.heap.size+1,4,none⟩=some (.slice s E u)/\y.drew.cell? ⟨w.heap.size,0,none⟩=some (.pointer (some ⟨d,0,none⟩))/\y.drew.cell? ⟨W.heap.size,0,none⟩=some (.pointer (some ⟨lo.lb,0,none⟩))/\y.drew.cell? ⟨d,1,none⟩=some (.map (some o))):=c4.out _ zn (fun _ _=>rfl)
     have aF:Hid (Calls Tryz.prog 39 #[.agg #[.string B,.slice g C i,.slice v F l,.slice j G k,.slice s E u]] y.drew fun e A=>∃H I sl,e=.returned (.pointer (some ⟨H,0,none⟩))/\(FrF y.drew m g v j s i l k u H I sl A)/\(A.cell? ⟨w.heap.size+1,0,none⟩=some (.string B)/\A.cell? ⟨w.heap.size+1,1,none⟩=some (.slice g C i)/\A.cell? ⟨w.heap.size+1,2,none⟩=some (.slice v F l)/\A.cell? ⟨w.heap.size+1,3,none⟩=some (.slice j G k)/\A.cell? ⟨w.heap.size+1,4,none⟩=some (.slice s E u)/\A.cell? ⟨w.heap.size,0,none⟩=some (.pointer (some ⟨d,0,none⟩))/\A.cell? ⟨W.heap.size,0,none⟩=some (.pointer (some ⟨lo.lb,0,none⟩))/\A.cell? ⟨d,1,none⟩=some (.map (some o)))):=by
      have:=xv e7.out HM.out g1.out
      unfold mcells at this
      rw[<-c3.out,<-HQ.out.1,<-HQ.out.2.1,<-HQ.out.2.2.1,<-HQ.out.2.2.2]at this
      refine this.mono ?_
      rintro e A⟨h1,H,I,sl,S,h3⟩
      exact⟨H,I,sl,S,⟨h1,h3⟩,c4.out _ h1.size (fun b J=>h1.block b J)⟩
     have t4:Hid (∀(A:World) H I sl,FrF y.drew m g v j s i l k u H I sl A->Calls Tryz.prog 49 #[.pointer (some ⟨H,0,none⟩),.pointer (some ⟨lo.lb,0,none⟩)] A fun e f=>e=.returned (.pointer (some ⟨H,0,none⟩))/\(FrF y.drew m g v j s i l k u H I sl A/\Ext I A f/\∃n,MapV f I n (keepF lo m sl m.vars.length))/\(f.cell? ⟨w.heap.size+1,0,none⟩=some (.string B)/\f.cell? ⟨w.heap.size+1,1,none⟩=some (.slice g C i)/\f.cell? ⟨w.heap.size+1,2,none⟩=some (.slice v F l)/\f.cell? ⟨w.heap.size+1,3,none⟩=some (.slice j G k)/\f.cell? ⟨w.heap.size+1,4,none⟩=some (.slice s E u)/\f.cell? ⟨w.heap.size,0,none⟩=some (.pointer (some ⟨d,0,none⟩))/\f.cell? ⟨W.heap.size,0,none⟩=some (.pointer (some ⟨lo.lb,0,none⟩))/\f.cell? ⟨d,1,none⟩=some (.map (some o)))):=fun A H I sl Q=>by
      refine(keep_of c1.out HM.out g1.out c0.out.1 e7.out Q).mono ?_
      rintro e f⟨h1,S,h3⟩
      exact⟨h1,⟨Q,S,h3⟩,c4.out _ (Nat.le_trans Q.1.size S.size) (fun b J=>(S.block b (Nat.lt_of_lt_of_le J Q.1.size) (by have:=Q.2.2.1;omega)).trans (Q.1.block b J))⟩
     have o8:m.name.length<=1000000:=by have:=zQ HM.out.n;omega
     have r9:Hid (∀(A f:World) H I sl,FrF y.drew m g v j s i l k u H I sl A/\Ext I A f/\(∃n,MapV f I n (keepF lo m sl m.vars.length))->(f.cell? ⟨w.heap.size+1,0,none⟩=some (.string B)/\f.cell? ⟨w.heap.size+1,1,none⟩=some (.slice g C i)/\f.cell? ⟨w.heap.size+1,2,none⟩=some (.slice v F l)/\f.cell? ⟨w.heap.size+1,3,none⟩=some (.slice j G k)/\f.cell? ⟨w.heap.size+1,4,none⟩=some (.slice s E u)/\f.cell? ⟨w.heap.size,0,none⟩=some (.pointer (some ⟨d,0,none⟩))/\f.cell? ⟨W.heap.size,0,none⟩=some (.pointer (some ⟨lo.lb,0,none⟩))/\f.cell? ⟨d,1,none⟩=some (.map (some o)))->∃N,(N.cell? ⟨w.heap.size+1,0,none⟩=some (.string B)/\N.cell? ⟨w.heap.size+1,1,none⟩=some (.slice g C i)/\N.cell? ⟨w.heap.size+1,2,none⟩=some (.slice v F l)/\N.cell? ⟨w.heap.size+1,3,none⟩=some (.slice j G k)/\N.cell? ⟨w.heap.size+1,4,none⟩=some (.slice s E u)/\N.cell? ⟨w.heap.size,0,none⟩=some (.pointer (some ⟨d,0,none⟩))/\N.cell? ⟨W.heap.size,0,none⟩=some (.pointer (some ⟨lo.lb,0,none⟩))/\N.cell? ⟨d,1,none⟩=some (.map (some o)))/\(Instr.mapUpdate 26 (.map (some o)) (.string B) (.pointer (some ⟨H,0,none⟩))).run Tryz.prog f=.ok () N/\∃U',WZ X U' (c+1) N d (Tp.putM P m)/\Tr (Mut L d R U) U' w N):=fun A f H I sl Q t9=>by
      obtain⟨Q,m7,p9⟩:=Q
      obtain⟨n0,aA,o3⟩:=r5.out o d4.out
      have p7:=o3.lt
      have aH:o≠I:=by have:=Q.2.2.1;omega
      have p2:MapV f o n0 (thrL L):=o3.on (((m7.block o (by have:=Q.1.size;omega) aH).trans (Q.1.block o (by omega))).trans (b2.out.block o p7))
      obtain⟨N,r1,r2,r3,r4⟩:=p2.store (t:=26) Tryz.underlying26 (by omega) m.name o8 (.pointer (some ⟨H,0,none⟩))
      obtain⟨f1,f2,f3,f4,f5,f6,f7⟩:=Q
      have t8:∀b,D b->b<w.heap.size->¬X b/\¬Mut L d (some o) U b:=fun b q1 q2=>by
       have:=HD.out b q1 q2
       rw[d4.out]at this
       exact this
      have o9:MD y.drew (fun b=>D b/\b<w.heap.size) m g v j s i l k u:=s9.out.mono (fun b J hl=>⟨b2.out.block b hl,J,hl⟩)
      obtain⟨s1,s2,s3⟩:=ww_swap HM.out c1.out (fun b q=>by have:=p8.out b q;omega) e6.out c0.out.1 c0.out.2 HP.out o9 (fun b J _=>t8 b J.1 J.2) f1 f2 f3 f4 f5 f6 f7 m7 p9 hc r3 aA r2
      obtain⟨z0,z1,z2,z3,z4,z5,z6,z7⟩:=t9
      have aM:=r8.out
      have aD:=c1.out.tx.2.1
      refine⟨N,⟨r3.cell z0 (by show w.heap.size+1≠o;omega),r3.cell z1 (by show w.heap.size+1≠o;omega),r3.cell z2 (by show w.heap.size+1≠o;omega),r3.cell z3 (by show w.heap.size+1≠o;omega),r3.cell z4 (by show w.heap.size+1≠o;omega),r3.cell z5 (by show w.heap.size≠o;omega),r3.cell z6 (by show W.heap.size≠o;omega),r3.cell z7 (fun e=>aD e.symm)⟩,by rw[c3.out];exact r1,_,⟨_,U,some o,s1,by rw[putL_len,s7.out];exact hL,e6.out,fun b=>Iff.rfl,s2,fun x hx=>?_⟩,?_⟩
      ·rcases Tp.put_mem hx with rfl|⟨q,_⟩
       ·exact t2.out
       ·exact n9.out x q
      ·rw[d4.out]
       exact Tr.ahead b2.out s3
     clear c4 e7 g1
     go_upto_region 11 with fail
     go_region_held3 (fun w'=>w'.cell? ⟨w.heap.size+1,0,none⟩=some (.string B)/\w'.cell? ⟨w.heap.size+1,1,none⟩=some (.slice g C i)/\w'.cell? ⟨w.heap.size+1,2,none⟩=some (.slice v F l)/\w'.cell? ⟨w.heap.size+1,3,none⟩=some (.slice j G k)/\w'.cell? ⟨w.heap.size+1,4,none⟩=some (.slice s E u)/\w'.cell? ⟨w.heap.size,0,none⟩=some (.pointer (some ⟨d,0,none⟩))/\w'.cell? ⟨W.heap.size,0,none⟩=some (.pointer (some ⟨lo.lb,0,none⟩))/\w'.cell? ⟨d,1,none⟩=some (.map (some o))) (with_reducible (first|exact aG.out|exact s8.out|exact p4.out|exact p5.out)) (first|(go_at_call 49;have _g:=o2;refine(t4.out _ _ _ _ o2.out).mono ?_;rintro e f ⟨rfl,m8,g9⟩;have s8:=zh g9;obtain⟨N,m4,aP,n7⟩:=r9.out _ _ _ _ _ m8 g9;have aC:=zh n7;have aG:=zh m4;clear m8 g9 n7 m4)|(go_at_call 39;refine aF.out.mono ?_;rintro e A ⟨H,I,sl,rfl,n1,m1⟩;have o2:=zh n1;have p4:=zh m1;clear n1 m1))
     go_wp2_with fail
     go_ret
     exact⟨_,rfl,by rw[h8.out];exact aC.out,by rw[h8.out];rfl⟩
structure AddA (c:Nat) (w:World) (wb lb:Nat) (nm:Bs) (L:List Lo) (nv:Value) (tv:Option Nat) (w':World) (tb':Nat) (nv':Value):Prop where
 blk:w'.heap[wb]?=some (.cells #[nv',.map (some tb')] 28 (0,0))
 tt:tv=some tb'\/tv=none/\w.heap.size<=tb'
 map:∃n,n<=c+1/\MapV w' tb' n (updV (thrL L) nm (.pointer (some ⟨lb,0,none⟩)))
 nm:w'.ownsRow 0 9 1 nv' (L.length+1) (strs ((L.map fun lo=>lo.m.name)++[nm]))
 nx:∀b,nv'.ownBlock=some b->(nv.ownBlock=some b\/w.heap.size<=b)/\b≠tb'/\b≠wb
 os:w'.os=w.os
 tape:w'.tape=w.tape
 output:w'.output=w.output
 size:w.heap.size<=w'.heap.size
 block:∀b,b<w.heap.size->b≠wb->tv≠some b->nv.ownBlock≠some b->w'.heap[b]?=w.heap[b]?
theorem add_fin2 {c n:Nat}{w w2 a:World}{f t d:Nat}{nm:Bs}{L:List Lo}{h i:Value}(H:f<w.heap.size)(k:Ext d w w2)(K:w2.heap.size=w.heap.size)(s:MapV w2 d (n+1) (updV (thrL L) nm (.pointer (some ⟨t,0,none⟩))))(J:n<=c)(A:a.heap[f]?=some (.cells #[h,.map (some d)] 28 (0,0)))
  (E:a.os=w2.os)(C:a.tape=w2.tape)(z:a.output=w2.output)(I:w2.heap.size<=a.heap.size)(l:∀b,b<w2.heap.size->h.ownBlock≠some b->a.heap[b]?=w2.heap[b]?)(y:a.ownsRow 0 9 1 i (L.length+1) (strs ((L.map fun lo=>lo.m.name)++[nm])))(G:∀g,i.ownBlock=some g->h.ownBlock=some g\/w2.heap.size<=g)(r:h.ownBlock≠some d)(u:h.ownBlock≠some f)(x:d≠f) :
  AddA c w f t nm L h (some d) (a.setCell ⟨f,0,none⟩ i) d i:=by
 have v:d<w2.heap.size:=s.lt
 have j:Ext f a (a.setCell ⟨f,0,none⟩ i):=(Ext.refl _ _).set 0 _
 have p:∀b,i.ownBlock=some b->(h.ownBlock=some b\/w.heap.size<=b)/\b≠d/\b≠f:=fun b l=>by
  rcases G b l with q|q
  ·exact⟨Or.inl q,fun e=>r (e ▸ q),fun e=>u (e ▸ q)⟩
  ·exact⟨Or.inr (by omega),by omega,by omega⟩
 refine⟨(zu 0 _ A).trans rfl,Or.inl rfl,⟨n+1,by omega,s.on ((zx _ x).trans (l _ v r))⟩,zH y (fun b _ _ o=>zx b (p b o).2.2),p,(j.os.trans E).trans k.os,(j.tape.trans C).trans k.tape,(j.output.trans z).trans k.output,by have:=j.size;omega,fun b B F o D=>?_⟩
 exact((zx b F).trans (l b (by omega) D)).trans (k.block b B (fun e=>o (by rw[e])))
theorem strs_snoc (l:List Bs)(n:Bs):strs l++[.string (bs n)]=strs (l++[n]):=by simp[strs]
theorem add_any {X:Nat->Prop}{c:Nat}{w:World}{a l k:Nat}{nm:Bs}{L:List Lo}{P:List Pt}{i:Value}{Z v2 p v4 v5:Value}(h:WW X w a L P i k)(hL:L.length<=10)(o:w.heap[l]?=some (.cells #[.string (bs nm),Z,v2,p,v4,v5] 107 (0,0)))(y:l≠k)(_:i.ownBlock≠some l)(hn:nm.length<=1000000)(a6:∃n,n<=c/\MapV w k n (thrL L))(hc:c<=90) :
  Calls Tryz.prog 40 #[.pointer (some ⟨a,0,none⟩),.pointer (some ⟨l,0,none⟩)] w fun e w'=>e=.returned (.tuple #[])/\∃tb' nv',AddA c w a l nm L i (some k) w' tb' nv':=by
 obtain⟨i1,hi,a5,a8,b0⟩:=info_parts Tryz.infoString
 have b3:=Tryz.mapSome k
 have A:=h.blk
 have T:=zf A
 have a4:=zf o
 have k1:w.cell? ⟨a,1,none⟩=some (.map (some k)):=(za A).trans rfl
 have kl:w.cell? ⟨l,0,none⟩=some (.string (bs nm)):=(za o).trans rfl
 obtain⟨n0,V,S⟩:=a6
 obtain⟨w2,a7,q,d,s⟩:=(S.on (w':=w.drew) rfl).store (t:=26) Tryz.underlying26 (by omega) nm hn (.pointer (some ⟨l,0,none⟩))
 have D:=h.tx.2.1
 have E:=h.nx
 have C:i.ownBlock≠some a:=fun e=>(E _ e).2.1 rfl
 have G:i.ownBlock≠some k:=fun e=>(E _ e).2.2.1 rfl
 have x:w2.heap[a]?=some (.cells #[i,.map (some k)] 28 (0,0)):=(d.block a T (fun e=>D e.symm)).trans A
 have H:w2.heap[l]?=some (.cells #[.string (bs nm),Z,v2,p,v4,v5] 107 (0,0)):=(d.block l a4 y).trans o
 have F:w2.heap.size=w.heap.size:=s
 have R:Ext k w w2:=⟨d.os,d.tape,d.output,by omega,fun b h1 h2=>d.block b h1 h2⟩
 have B:w2.ownsRow 0 9 1 i L.length (strs (L.map fun lo=>lo.m.name)):=zH h.nm (fun b _ o ho=>d.block b o (fun e=>G (e ▸ ho)))
 have Y:Hid (∀ob,(w2.alloc ob).ownsRow 0 9 1 i L.length (strs (L.map fun lo=>lo.m.name))):=fun ob=>zH B (fun b _ o _=>Below.heap_alloc _ _ _ o)
 have N:Hid (∀(f:World) (p:Value),f.heap[a]?=some (.cells #[i,.map (some k)] 28 (0,0))->f.os=w2.os->f.tape=w2.tape->f.output=w2.output->w2.heap.size<=f.heap.size->(∀b,b<w2.heap.size->i.ownBlock≠some b->f.heap[b]?=w2.heap[b]?)->f.ownsRow 0 9 1 p (L.length+1) (strs ((L.map fun lo=>lo.m.name))++[.string (bs nm)])->(∀g,p.ownBlock=some g->i.ownBlock=some g\/w2.heap.size<=g)->AddA c w a l nm L i (some k) (f.setCell ⟨a,0,none⟩ p) k p):=fun f p r o1 o2 o3 o4 K r1 r3=>by
  rw[strs_snoc]at r1
  exact add_fin2 T R F q V r o1 o2 o3 o4 K r1 r3 G C D
 obtain⟨I,cap,W⟩:=zw B
 have U:w2.cell? ⟨a,0,none⟩=some i:=(za x).trans rfl
 have nl:w2.cell? ⟨l,0,none⟩=some (.string (bs nm)):=(za H).trans rfl
 have M:a<w2.heap.size:=zf x
 have a1:l<w2.heap.size:=zf H
 have O:=zh x
 have a0:∀ob,(w2.alloc ob).cell? ⟨a,0,none⟩=some i:=fun ob=>(World.cell?_of_block (w:=w2) (Below.heap_alloc _ _ _ M)).trans U
 have b5:∀ob,(w2.alloc ob).cell? ⟨l,0,none⟩=some (.string (bs nm)):=fun ob=>(World.cell?_of_block (w:=w2) (Below.heap_alloc _ _ _ a1)).trans nl
 have Q:=zh C
 have b2:Hid ((strs (L.map fun lo=>lo.m.name)).length=L.length*1/\∀u∈strs (L.map fun lo=>lo.m.name),u.oneCell'=true):=⟨by simp[strs],fun u v=>by simp[strs]at v;obtain⟨b,_,rfl⟩:=v;rfl⟩
 clear A o S q d s x H R E G C h B V D y
 rw[W]at Y N U a0 O Q ⊢
 clear W
 have b1:=zh F
 clear F
 generalize a2:strs (L.map fun lo=>lo.m.name)=ss at *
 clear a2
 generalize L.length=ln at *
 go_enter Tryz.func40,Tryz.ntmps40
 go_upto_region 2 with fail
 go_region
 clear k1 kl a7
 go_upto_region 3 with fail
 go_region_law (first|(refine zW rfl (.tmp 27) (.tmp 33) 25 rfl 0 9 i1 (.string ⟨#[]⟩) 1 16 Tryz.underlying25 hi a5 a8 b0 rfl (by decide) (.slice I ln cap) ln ss (by simp[Act.eval]) ?hown ⟨w2.heap.size,0,none⟩ 1 1 [.string (bs nm)] (by simp[Act.eval]) rfl ?news (by intro u v;simp at v;subst v;rfl) (by unfold maxLen;omega) (by omega) (by omega) ?_;(case hown=>exact Y.out _);(case news=>(intro j u J;rw[Addr.add_lit];cases j with|zero=>(simp at J;subst J;first|exact(za (zo w2 _)).trans rfl|exact(za (zo w2.drew _)).trans rfl)|succ j=>simp at J));intro b4 f q d s;obtain⟨a3,c3,a9⟩:=zw q;subst a9;have r:f.heap[a]?=some (.cells #[.slice I ln cap,.map (some k)] 28 (0,0)):=(d.block a (by simp;omega) (fun e=>Q.out e.symm)).trans ((Below.heap_alloc w2 _ a M).trans O.out);have n3:f.cell? ⟨a,0,none⟩=some (.slice I ln cap):=(za r).trans rfl;have z3:f.frozen? ⟨a,0,none⟩=false:=zi r;have HF:=zh (N.out f _ r d.os d.tape d.output (by have:=d.size;simp at this;omega) (fun b K y=>(d.block b (by simp;omega) (fun e=>y e.symm)).trans (Below.heap_alloc w2 _ b K)) q (fun g hg=>(s g hg).elim Or.inl (fun z=>Or.inr (by simp at z;omega))));clear q d s r))
 all_goals exact bodyPost_end (results_none rfl _ _ _) rfl ⟨rfl,k,_,HF.out⟩
theorem thrL_add {L:List Lo}{lo:Lo}(h:(L.find? fun x=>x.m.name==lo.m.name)=none):thrL (L++[lo])=updV (thrL L) lo.m.name (.pointer (some ⟨lo.lb,0,none⟩)):=by
 funext k
 unfold thrL updV
 rw[List.find?_append]
 by_cases a:k=lo.m.name
 ·rw[if_pos a,a,h]
  simp
 ·rw[if_neg a,List.find?_cons_of_neg (by simpa using fun e=>a e.symm)]
  simp
theorem add_gen {X:Nat->Prop}{c:Nat}{w:World}{g f:Nat}{d:Option Nat}{nm:Bs}{L:List Lo}{P:List Pt}{m:Value}{x F y A H:Value}(h:WX X w g L P m d)(z:L.length<=10)(p:w.heap[f]?=some (.cells #[.string (bs nm),x,F,y,A,H] 107 (0,0)))(j:¬Mut L g d m f)(r:nm.length<=1000000)(s:MapC w d L c)(E:c<=90) :
  Calls Tryz.prog 40 #[.pointer (some ⟨g,0,none⟩),.pointer (some ⟨f,0,none⟩)] w fun e w'=>e=.returned (.tuple #[])/\∃tb' i,AddA c w g f nm L m d w' tb' i:=by
 cases d with
 |some l=>exact add_any h z p (fun e=>j (Or.inr (Or.inr (Or.inl (by rw[e]))))) (fun e=>j (Or.inr (Or.inr (Or.inr e)))) r (s l rfl) E
 |none =>
  obtain⟨rfl,rfl,rfl,_,q⟩:=h
  have I:=zf q
  refine(add_first q p (fun e=>j (Or.inr (Or.inl e))) r).mono ?_
  rintro e w'⟨t,a,l,i,v,D,B,C,o⟩
  refine⟨t,l,i,v,Or.inr ⟨rfl,D⟩,⟨1,by omega,?_⟩,C,fun b n=>⟨Or.inr (o b n).1,(o b n).2,by have:=(o b n).1;omega⟩,a.os,a.tape,a.output,a.size,fun b u G _ _=>a.block b u G⟩
  have:thrL []=fun _=>none:=by funext k;rfl
  rw[this]
  exact B
theorem ww_add {X:Nat->Prop}{D:Nat->Prop}{c:Nat}{w E w7 T:World}{k:Nat}{L:List Lo}{P:List Pt}{o:Value}{u:Option Nat}{m:Tp.M}{ia ga pa ba:Option Addr}{ic gc pc bc i j A:Nat}{N:Value}{sl:Bs->Nat}(hm:Tp.WM m)(h:WX X w k L P o u)(hX:∀b,X b->b<w.heap.size)(e3:Tp.WI ofS P)(a3:Tp.partOf P m.name=none)(d3:Tp.check m (Tp.seenW ofS P)=none)(e0:MD w D m ia ga pa ba ic gc pc bc)(hD:∀b,D b->b<w.heap.size->¬X b/\¬Mut L k u o b)
  (J:Below w.heap.size w E)(c4:w.heap.size<=i)(c7:w.heap.size<=j)(c6:E.heap[i]?=some (.cells (lcells m ia ga pa ba ic gc pc bc j) 107 (0,0)))(b5:Laid E w.heap.size j m.vars m.vars.length sl)(a7:∀g∈m.vars,sl g.name≠i/\sl g.name≠j)
  (W:Below E.heap.size E w7)(hc:c<=90)(s:AddA c w7 k i m.name L o u T A N) :
  WW X T k (L++[⟨m,i,j,sl⟩]) (P++[⟨m,Tp.fresh m⟩]) N A/\Tp.WI ofS (P++[⟨m,Tp.fresh m⟩])/\MapC T (some A) (L++[⟨m,i,j,sl⟩]) (c+1)/\Tr (Mut L k u o) (Mut (L++[⟨m,i,j,sl⟩]) k (some A) N) w T:=by
 have c3:Tp.WI ofS (P++[⟨m,Tp.fresh m⟩]):=Tp.WI.add (q:=⟨m,Tp.fresh m⟩) e3 a3 d3
 have b7:=h.mw
 have b0:Tp.ms (P++[⟨m,Tp.fresh m⟩])=(L++[(⟨m,i,j,sl⟩:Lo)]).map fun lo=>lo.m:=by
  unfold Tp.ms at b7 ⊢
  rw[List.map_append,List.map_append,b7]
  rfl
 have a2:(L.find? fun lo=>lo.m.name==m.name)=none:=by
  rw[List.find?_eq_none]
  intro lo f q
  have I:lo.m.name=m.name:=by simpa using q
  have c9:lo.m∈Tp.ms P:=by rw[b7];exact List.mem_map.2 ⟨lo,f,rfl⟩
  obtain⟨p,hp,d0⟩:=List.mem_map.1 c9
  have:=List.find?_eq_none.1 a3 p hp
  simp[d0,I]at this
 have a8:∀x∈(L++[(⟨m,i,j,sl⟩:Lo)]),Tp.WM x.m->Tp.FitM ((L++[(⟨m,i,j,sl⟩:Lo)]).map fun lo=>lo.m) x.m:=fun x hx t=>by
  rw[<-b0]
  exact c3.fit jx (by rw[b0];exact List.mem_map.2 ⟨x,hx,rfl⟩) t
 have e6:=J.size
 have e9:=W.size
 have e7:=s.size
 have d2:m.vars.take m.vars.length=m.vars:=List.take_length
 have O:=b5.at'
 have c1:=b5.inj
 have b4:=b5.map
 rw[d2]at O c1 b4
 have b8:∀g∈m.vars,sl g.name<E.heap.size:=fun g d=>zf (O g d).2
 have C:=fun {b:Nat} (q:Mut L k u o b)=>h.mlt q
 have e8:k<w.heap.size:=zf h.blk
 have c5:∀b,VLo (L++[⟨m,i,j,sl⟩]) b->VLo L b\/∃g∈m.vars,b=sl g.name:=by
  rintro b⟨lo,f,g,d,e⟩
  rcases List.mem_append.1 f with q|q
  ·exact Or.inl ⟨lo,q,g,d,e⟩
  ·rw[List.mem_singleton]at q
   subst q
   exact Or.inr ⟨g,d,e⟩
 have S:∀b,VLo (L++[⟨m,i,j,sl⟩]) b->VLo L b\/w.heap.size<=b/\b<E.heap.size/\b≠i/\b≠j:=fun b q=>by
  rcases c5 b q with q|⟨g,d,rfl⟩
  ·exact Or.inl q
  ·exact Or.inr ⟨(O g d).1,b8 g d,(a7 g d).1,(a7 g d).2⟩
 have f0:∀b,VLo L b->VLo (L++[⟨m,i,j,sl⟩]) b:=by
  rintro b⟨lo,f,g,d,e⟩
  exact⟨lo,List.mem_append_left _ f,g,d,e⟩
 have a4:u=some A\/w7.heap.size<=A:=s.tt.imp id (fun q=>q.2)
 have b6:∀b,N.ownBlock=some b->o.ownBlock=some b\/w7.heap.size<=b:=fun b q=>(s.nx b q).1
 have U:∀b,b<E.heap.size->¬Mut L k u o b->T.heap[b]?=E.heap[b]?:=fun b l a1=>(s.block b (by omega) (fun e=>a1 (Or.inr (Or.inl e))) (fun e=>a1 (Or.inr (Or.inr (Or.inl e)))) (fun e=>a1 (Or.inr (Or.inr (Or.inr e))))).trans (W.block b l)
 have R:∀b,w.heap.size<=b->¬Mut L k u o b:=fun b l q=>by have:=(C q).1;omega
 have c2:=zf c6
 have c0:=b4.lt
 have a5:∀b,w.heap.size<=b->¬X b:=fun b l q=>by have:=hX b q;omega
 have b9:∀b,b<w.heap.size->¬X b->¬Mut L k u o b->StB X (L++[⟨m,i,j,sl⟩]) k A N b:=fun b l hx Y=>by
  refine⟨hx,fun q=>?_,fun e=>Y (Or.inr (Or.inl e)),fun e=>?_,fun e=>?_⟩
  ·rcases S b q with q|q
   ·exact Y (Or.inl q)
   ·omega
  ·rcases a4 with q|q
   ·exact Y (Or.inr (Or.inr (Or.inl (e ▸ q))))
   ·omega
  ·rcases b6 b e with q|q
   ·exact Y (Or.inr (Or.inr (Or.inr q)))
   ·omega
 have c8:∀b,w.heap.size<=b->b<E.heap.size->(∀g∈m.vars,sl g.name≠b)->StB X (L++[⟨m,i,j,sl⟩]) k A N b:=fun b F h2 h3=>by
  refine⟨a5 b F,fun q=>?_,by omega,fun e=>?_,fun e=>?_⟩
  ·rcases c5 b q with q|⟨g,d,e⟩
   ·exact R b F (Or.inl q)
   ·exact h3 g d e.symm
  ·rcases a4 with q|q
   ·exact R b F (Or.inr (Or.inr (Or.inl (e ▸ q))))
   ·omega
  ·rcases b6 b e with q|q
   ·exact R b F (Or.inr (Or.inr (Or.inr q)))
   ·omega
 have Z:∀lo∈L,∃B,u=some B/\WW X w k L P o B:=fun lo f=>h.ww f
 have b1:∀{B b:Nat},u=some B->StB X L k B o b->¬X b/\¬Mut L k u o b:=fun Q H=>⟨H.1,fun q=>by
  rcases q with q|q|q|q
  ·exact H.2.1 q
  ·exact H.2.2.1 q
  ·rw[Q]at q;cases q;exact H.2.2.2.1 rfl
  ·exact H.2.2.2.2 q⟩
 have a9:∀b,Mut L k u o b->¬VLo L b->¬VLo (L++[⟨m,i,j,sl⟩]) b:=fun b q K q2=>by
  rcases S b q2 with z|z
  ·exact K z
  ·have:=(C q).1;omega
 have e5:u=none->L=[]:=fun e=>by subst e;exact h.1
 refine⟨⟨s.blk,⟨h.xw,?_⟩,?_,fun b l=>?_,⟨?_,?_,?_⟩,?_,fun lo f=>?_,fun b l=>?_,?_,?_,fun lo f=>?_,b0⟩,c3,?_,?_⟩
 ·refine a9 k (Or.inr (Or.inl rfl)) ?_
  rintro⟨lo,f,g,d,e⟩
  obtain⟨B,_,t⟩:=Z lo f
  exact t.xw.2 ⟨lo,f,g,d,e⟩
 ·have:=s.nm
  simpa using this
 ·obtain⟨q1,q2,q3⟩:=s.nx b l
  have d1:¬X b:=by
   rcases q1 with q|q
   ·exact(C (Or.inr (Or.inr (Or.inr q)))).2
   ·exact a5 b (by omega)
  refine⟨d1,q3,q2,fun q=>?_⟩
  rcases q1 with z|z
  ·refine a9 b (Or.inr (Or.inr (Or.inr z))) ?_ q
   rintro⟨lo,f,g,d,e⟩
   obtain⟨B,_,t⟩:=Z lo f
   exact(t.nx b z).2.2.2 ⟨lo,f,g,d,e⟩
  ·rcases S b q with y|y
   ·have:=(C (Or.inl y)).1;omega
   ·omega
 ·rcases a4 with q|q
  ·exact(C (Or.inr (Or.inr (Or.inl q)))).2
  ·exact a5 _ (by omega)
 ·rcases s.tt with q|q
  ·subst q
   exact(show WW X w k L P o A from h).tx.2.1
  ·omega
 ·rcases s.tt with q|q
  ·subst q
   exact a9 A (Or.inr (Or.inr (Or.inl rfl))) (show WW X w k L P o A from h).tx.2.2
  ·intro z
   rcases S _ z with y|y
   ·have:=(C (Or.inl y)).1;omega
   ·omega
 ·obtain⟨n,hn,b2⟩:=s.map
  refine⟨n,by omega,?_⟩
  rw[thrL_add (lo:=⟨m,i,j,sl⟩) a2]
  exact b2
 ·rcases List.mem_append.1 f with r|r
  ·obtain⟨B,Q,t⟩:=Z lo r
   obtain⟨⟨d9,e2,d6,d5,d4,e1,d7,d8,F,h2⟩,h3,h4,⟨n,h5⟩,h9⟩:=t.lo lo r
   have a0:∀b,StB X L k B o b->b<w.heap.size->T.heap[b]?=w.heap[b]?/\StB X (L++[⟨m,i,j,sl⟩]) k A N b:=fun b H G=>⟨(U b (by omega) (b1 Q H).2).trans (J.block b G),b9 b G (b1 Q H).1 (b1 Q H).2⟩
   exact⟨⟨d9,e2,d6,d5,d4,e1,d7,d8,(a0 _ h3 (zf F)).1.trans F,h2.mono a0⟩,(a0 _ h3 (zf F)).2,(a0 _ h4 h5.lt).2,⟨n,h5.on (a0 _ h4 h5.lt).1⟩,a8 lo f h9.wm⟩
  ·rw[List.mem_singleton]at r
   subst r
   refine⟨⟨ia,ga,pa,ba,ic,gc,pc,bc,(U i c2 (R i c4)).trans c6,e0.mono (fun b l G=>⟨(U b (by omega) (hD b l G).2).trans (J.block b G),b9 b G (hD b l G).1 (hD b l G).2⟩)⟩,c8 i c4 c2 (fun g d=>(a7 g d).1),c8 j c7 c0 (fun g d=>(a7 g d).2),⟨m.vars.length,b4.on (U j c0 (R j c7))⟩,a8 _ f hm⟩
 ·rcases S b l with q|q
  ·exact⟨by have:=(C (Or.inl q)).1;omega,(C (Or.inl q)).2⟩
  ·exact⟨by omega,a5 b q.1⟩
 ·rw[List.map_append,List.nodup_append]
  refine⟨h.nd,by simp,fun a ha b l e=>?_⟩
  obtain⟨lo,f,rfl⟩:=List.mem_map.1 ha
  simp at l
  have:=List.find?_eq_none.1 a2 lo f
  simp[e.trans l]at this
 ·intro lo f b3 r g d V a6 e
  rcases List.mem_append.1 f with q|q<;>rcases List.mem_append.1 r with I|I
  ·obtain⟨B,_,t⟩:=Z lo q
   exact t.inj lo q b3 I g d V a6 e
  ·rw[List.mem_singleton]at I
   subst I
   have F:=(C (Or.inl ⟨lo,q,g,d,rfl⟩)).1
   have h2:=(O V a6).1
   have e':lo.sl g.name=sl V.name:=e
   omega
  ·rw[List.mem_singleton]at q
   subst q
   have F:=(C (Or.inl ⟨b3,I,V,a6,rfl⟩)).1
   have h2:=(O g d).1
   have e':sl g.name=b3.sl V.name:=e
   omega
  ·rw[List.mem_singleton]at q I
   subst q
   subst I
   exact⟨rfl,c1 g d V a6 e⟩
 ·rcases List.mem_append.1 f with r|r
  ·obtain⟨B,Q,t⟩:=Z lo r
   obtain⟨p,p1,p2,p3⟩:=t.vals lo r
   have a1:lo.m.name≠m.name:=fun e=>by
    have:=List.find?_eq_none.1 a2 lo r
    simp[e]at this
   refine⟨p,(Tp.part_last (q:=⟨m,Tp.fresh m⟩) a1).trans p1,p2,fun g d=>⟨(p3 g d).1,?_,(p3 g d).2.2⟩⟩
   have K:VLo L (lo.sl g.name):=⟨lo,r,g,d,rfl⟩
   have G:=(t.sv _ K).1
   refine(((s.block _ (by omega) (fun e=>?_) (fun e=>?_) (fun e=>?_)).trans (W.block _ (by omega))).trans (J.block _ G)).trans (p3 g d).2.1
   ·exact t.xw.2 (e ▸ K)
   ·rw[Q]at e;cases e;exact t.tx.2.2 K
   ·exact(t.nx _ e).2.2.2 K
  ·rw[List.mem_singleton]at r
   subst r
   have e4:=(a8 _ f hm).vn
   refine⟨⟨m,Tp.fresh m⟩,?_,rfl,fun g d=>?_⟩
   ·unfold Tp.partOf at a3 ⊢
    rw[List.find?_append,a3]
    simp
   ·simp only
    rw[xu e4 d]
    refine⟨by simp,?_,fun v K=>?_⟩
    ·exact(U _ (b8 g d) (R _ (O g d).1)).trans (O g d).2
    ·rw[(List.mem_replicate.1 K).2];decide
 ·intro B e
  cases e
  obtain⟨n,hn,b2⟩:=s.map
  refine⟨n,by omega,?_⟩
  rw[thrL_add (lo:=⟨m,i,j,sl⟩) a2]
  exact b2
 ·refine⟨(s.os.trans W.os).trans J.os,(s.tape.trans W.tape).trans J.tape,(s.output.trans W.output).trans J.output,by omega,fun b l Y=>(U b (by omega) Y).trans (J.block b l),fun b l=>?_⟩
  rcases l with q|q|q|q
  ·rcases S b q with y|y
   ·exact Or.inl (Or.inl y)
   ·exact Or.inr y.1
  ·exact Or.inl (Or.inr (Or.inl q))
  ·cases q
   rcases a4 with y|y
   ·exact Or.inl (Or.inr (Or.inr (Or.inl y)))
   ·exact Or.inr (by omega)
  ·rcases b6 b q with y|y
   ·exact Or.inl (Or.inr (Or.inr (Or.inr y)))
   ·exact Or.inr (by omega)
end Go.Proofs.YtibncofnnlbmcaaGreatDoor
