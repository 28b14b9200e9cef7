import Derived.Test.YtibncofnnlbmcaaGreatDoorKAg
import Derived.Laws.AppendOwnNone
set_option maxRecDepth 100000
set_option maxHeartbeats 4000000
namespace Go.Proofs.YtibncofnnlbmcaaGreatDoor
open Go.RowKit Go.Maps
open Tp (Bs X S G Pr Pt Rs Rr Own)
theorem WZ.get {X U:Nat->Prop}{c:Nat}{w:World}{e:Nat}{P:List Pt}(h:WZ X U c w e P){x:Tp.M}(i:x∈Tp.ms P)(nm:Bs)(f:nm.length<=1000000) :
  Calls Tryz.prog 23 #[.pointer (some ⟨e,0,none⟩),.string (bs x.name),.string (bs nm)] w (GetP w (Tp.getW P x.name nm)):=by
 obtain⟨L,j,l,d,_⟩:=h
 have b:=i
 rw[d.mw]at b
 obtain⟨lo,a,rfl⟩:=List.mem_map.1 b
 obtain⟨k,_,g⟩:=d.ww a
 exact get_in g a nm f
theorem put_mem {P:List Pt}{m x:Tp.M}(a:m∈Tp.ms P)(b:x.name=m.name):x∈Tp.ms (Tp.putM P x):=by
 obtain⟨q,c,rfl⟩:=List.mem_map.1 a
 exact List.mem_map.2 ⟨_,List.mem_map.2 ⟨q,c,rfl⟩,by simp[b]⟩
theorem md_more {w u g:World}{U:Nat->Prop}{f:Nat}{m:Tp.M}{p x s k:Option Addr}{r y t l n:Nat}{v:Value}(h:MD w (fun b=>¬U b/\b≠f) m p x s k r y t l)(A:Below w.heap.size w g)(D:w.heap.size<=u.heap.size)(z:∀b,U b->b<w.heap.size)(C:f<w.heap.size)(E:n=1+m.vars.length)(B:g.ownsRow u.heap.size 61 4 v n (gcs [freshG]++gcs m.vars)) :
  ∃ga' gc',v=.slice ga' n gc'/\MD g (fun b=>¬U b/\b≠f) (Tp.moreV m freshG) p ga' s k r gc' t l:=by
 have j:=Row.of_owns B
 have d:(freshG :: m.vars).length=n:=by simp;omega
 obtain⟨a,c,rfl⟩:=j.shape
 have i:=h.mono (w':=g) (D':=fun b=>¬U b/\b≠f) (fun b o d=>⟨A.block b d,o⟩)
 refine⟨a,c,rfl,i.im,?_,i.pr,i.bd⟩
 rw[<-qi]at j
 have e:(Tp.moreV m freshG).vars=freshG :: m.vars:=rfl
 rw[e,d]
 exact j.mono (fun b o d=>⟨rfl,fun q=>by have:=z b q;omega,by omega⟩)
theorem kW {P:Program}(w:World){ops:Array Oper}{rest:List Oper}{o:Oper}{a:Act}{Q:Exit->Act->World->Prop}(l:o.guard=none)(s x:Operand)(t:TypeId)
  (y:o.op=.call { callee:=.builtin .append,args:=#[s,x],argTypes:=#[t,t] })
  (b:Nat)(e:TypeId)(i:TypeInfo)(z:Value)(size f:Nat)(B:P.underlying t=some (.slice e))(p:P.info? e=some i)(S:i.zero=some z)
  (H:i.size=size)(K:i.bytes=f)(N:z.cells.size=size)(M:0<size)
  (v:Value)(n:Nat)(d:List Value)(A:a.eval s=v)(k:w.ownsRow b e size v n d)
  (D:Nat->Prop)(E:Value)(m:Nat)(c:List Value)(C:a.eval x=E)(I:Row w D e size E m c)(r:c.length=m*size)(O:∀u∈c,u.oneCell'=true)
  (J:n+m<=maxLen)(F:(n+m)*f<=140737488355328)(G:b<=w.heap.size)
  (h:∀v' w',w'.ownsRow b e size v' (n+m) (d++c)->w.grownBy w' v.ownBlock->(∀g,v'.ownBlock=some g->v.ownBlock=some g\/w.heap.size<=g)->wpList P ops Q rest (a.put o.dst v') w'):wpList P ops Q (o :: rest) a w:=by
 rcases I with⟨rfl,rfl,rfl⟩|⟨g,cap,cur,rfl,hD,hb,hcap,hmx,hsz',htk⟩
 ·refine wpList_append_own_none l s x t y b e i size B p v n d A k C (h v w (by simpa using k) ⟨rfl,rfl,rfl,Nat.le_refl _,fun _ _ _=>rfl⟩ (fun g R=>Or.inl R))
 ·refine zC w l s x t y b e i z size f B p S H K N M v n d A k ⟨g,0,none⟩ m cap c C r (fun j u q=>?_) O J F G h
  have L:j<m*size:=by rw[<-r];exact(List.getElem?_eq_some_iff.1 q).1
  rw[Addr.add_lit,za hb,Nat.zero_add,<-Array.getElem?_toList,<-q,<-htk,List.getElem?_take_of_lt L]
theorem gcs_len' (l:List G):(gcs l).length=l.length*4:=by
 induction l with
 |nil=>rfl
 |cons a t ih =>
  have:gcs (a :: t)=gcs [a]++gcs t:=qi [a] t
  rw[this,List.length_append,ih,List.length_cons]
  have:(gcs [a]).length=4:=rfl
  omega
theorem gcs_one' (l:List G):∀u∈gcs l,u.oneCell'=true:=by
 intro u a
 unfold gcs at a
 obtain⟨c,b,a⟩:=List.mem_flatten.1 a
 obtain⟨g,_,rfl⟩:=List.mem_map.1 b
 simp[gcells]at a
 rcases a with rfl|rfl|rfl|rfl<;>rfl
theorem own_lt {g n c b:Nat}(h:b<g):some b≠(Value.slice (some ⟨g,0,none⟩) n c).ownBlock:=fun e=>by
 have:b=g:=by simpa[Value.ownBlock] using e
 omega
theorem MD.tr {U c:Nat->Prop}{w w':World}{k:Nat}{m:Tp.M}{i f l d:Option Addr}{j g n e:Nat}(h:MD w (fun b=>¬U b/\b≠k) m i f l d j g n e)(t:Tr U c w w'):MD w' (fun b=>¬c b/\b≠k) m i f l d j g n e:=h.mono (fun b a o=>⟨t.block b o a.1,fun q=>(t.more b q).elim a.1 (fun z=>by omega),a.2⟩)
theorem zeroMod (w:World):(zeroValue 36).run Tryz.prog w=.ok (.agg #[.string ⟨#[]⟩,.slice none 0 0,.slice none 0 0,.slice none 0 0,.slice none 0 0]) w:=by kernel_rfl
theorem keeps_post {w:World}(hv:VarsC w.heap.size w){l:List Ac}{a:Option Addr}{cap:Nat}(hS:ActAt w l a)(s:Bs) :
  Calls Tryz.prog 5 #[.slice a l.length cap,.string (bs s)] w fun e w'=>e=.returned (.bool true)/\Below w.heap.size w w':=by
 have HV:=zh hv
 have HS:=zh hS
 have HH:=zh (held_post (cap:=cap) hS)
 have eU:((bs s).size:Int)=(s.length:Int):=by rw[yv]
 clear hv hS
 obtain⟨O,t0⟩:∃O,O=l.length:=⟨_,rfl⟩
 rw[<-t0]at HH ⊢
 have bP:=zh t0
 clear t0
 obtain⟨sb,t4⟩:∃sb,sb=bs s:=⟨_,rfl⟩
 rw[<-t4]at eU ⊢
 have p8:=zh t4
 clear t4
 go_enter Tryz.func5,Tryz.ntmps5
 go_wp2_with fail
 refine HH.out.mono ?_
 rintro e w1⟨⟨bb,rfl,h4⟩,e6⟩
 have d2:=zh e6
 cases bb with
 |false =>
  clear h4 e6
  go_wp2_with fail
  go_ret
  exact⟨rfl,d2.out⟩
 |true =>
  by_cases h9:40<s.length
  ·have eK:(s.length:Int) > 40:=by omega
   clear h4 e6
   go_wp2_with fail
   go_ret
   exact⟨rfl,d2.out⟩
  have eK:¬(s.length:Int) > 40:=by omega
  have bK:=zh (h4 rfl)
  have t6:=HV.out.on e6
  have HR:=zh (ran_any t6.mks t6.lv)
  clear h4 e6 t6 HH
  go_wp2_with fail
  refine HR.out.mono ?_
  rintro e w2⟨rfl,cB⟩
  have c3:Hid (Below w.heap.size w w2):=d2.out.trans (cB.mono d2.out.size)
  obtain⟨J,f0⟩:∃J,J=w2.alloc (.cells #[.slice none 0 0,.map none] 28):=⟨_,rfl⟩
  have r9:Below w2.heap.size w2 J:=by rw[f0];exact zb _ _
  have s7:J.heap[w2.heap.size]?=some (.cells #[.slice none 0 0,.map none] 28 (0,0)):=by rw[f0];exact zo _ _
  have t3:J.heap.size=w2.heap.size+1:=by rw[f0];simp
  obtain⟨w4,i1⟩:∃w4,w4=J.alloc (.map #[] 0):=⟨_,rfl⟩
  have s1:Below J.heap.size J w4:=by rw[i1];exact zb _ _
  have r6:Hid (WZ (fun b=>b=J.heap.size) (fun b=>b=w2.heap.size) 0 w4 w2.heap.size []):=WZ.zero ((s1.block _ (zf s7)).trans s7) (by omega)
  have X:Hid (LastP (fun _=>False) (fun b=>b=w2.heap.size) w4 [] J.heap.size 0 (fun _=>none)):=by
   have:=LastP.made (U:=fun b=>b=w2.heap.size) J [] (by omega)
   rw[<-i1]at this
   exact this
  have aZ:Hid (Below w.heap.size w w4):=(c3.out.trans (r9.mono c3.out.size)).trans (s1.mono (by have:=c3.out.size;have:=r9.size;omega))
  have p9:Hid (∀b,b=w2.heap.size->w.heap.size<=b):=fun b e=>by rw[e];exact c3.out.size
  have fF:O<=12:=by have:=bK.out.n;have:=bP.out;omega
  have fB:(O:Int)<=12:=by omega
  have bO:Hid (w.heap.size<=J.heap.size):=by have:=c3.out.size;show _<=_;omega
  obtain⟨M,i4⟩:∃M,M=w2.heap.size:=⟨_,rfl⟩
  obtain⟨o,h8⟩:∃o,o=J.heap.size:=⟨_,rfl⟩
  rw[<-i4,<-h8]at r6 X
  rw[<-h8]at bO
  rw[<-i4]at p9
  clear cB r9 s7 s1 t3 HR d2 c3
  have eP:=@run_makeMap Tryz.prog
  go_upto_region 6 with fail
  rw[<-f0,<-i4]
  clear f0 i4
  go_upto_region 7 with fail
  rw[<-i1,<-h8]
  clear i1 h8 eP
  go_wp2_with fail
  go_loopg [7] O (fun k vi wr=>∃(i n:Nat) (U:Nat->Prop) (P:List Pt) (f:Bs->Option Value),i<=O/\n<=i/\k=O-i/\vi=.int .i64 (i:Int)/\Hid (WZ (fun b=>b=o) U i wr M P)/\Hid (LastP (fun _=>False) U wr P o n f)/\Hid (Below w.heap.size w wr)/\Hid (∀b,U b->w.heap.size<=b))
  case atStart=>exact⟨0,0,_,[],_,by omega,by omega,by omega,rfl,r6,X,aZ,p9⟩
  case round =>
   obtain⟨i,n,U,P,f,fP,fS,hk,rfl,HZ,X,S,HU⟩:=hrel
   clear r6 aZ p9
   have aY:=(HZ.out.lt HZ.out.wb).1
   by_cases fR:i<O
   ·have dI:(i:Int)<(O:Int):=by omega
    have fO:¬(i:Int)<0:=by omega
    have cJ:i<l.length:=by have:=bP.out;omega
    obtain⟨g,go,aa,ac,eM,s6,cI,cA⟩:=HS.out.c i cJ
    have eO:g<w.heap.size:=zg (s6 0 (by omega))
    subst eM
    obtain⟨x1,x2,x3,x4⟩:=bK.out.x _ (List.getElem_mem cJ)
    have o2:Hid (∀W,Below w.heap.size w W->W.cell? ⟨g,go+i*5,none⟩=some (.int .i64 l[i].what)/\W.cell? ⟨g,go+i*5+1,none⟩=some (.string (bs l[i].text))/\W.cell? ⟨g,go+i*5+2,none⟩=some (.string (bs l[i].name))/\W.cell? ⟨g,go+i*5+3,none⟩=some (.string (bs l[i].proc))/\W.cell? ⟨g,go+i*5+4,none⟩=some (.slice aa l[i].args.length ac)):=fun W hW=>by
     have hc:=fun j (hj:j<5)=>(hW.cell (p:=⟨g,go+(i*5+j),none⟩) eO).trans (s6 j hj)
     exact⟨hc 0 (by omega),by rw[Nat.add_assoc];exact hc 1 (by omega),by rw[Nat.add_assoc];exact hc 2 (by omega),by rw[Nat.add_assoc];exact hc 3 (by omega),by rw[Nat.add_assoc];exact hc 4 (by omega)⟩
    have dH:o<wr.heap.size:=X.out.2.1.lt
    have HA:Hid (Calls Tryz.prog 11 #[.pointer (some ⟨M,0,none⟩),.agg (acells l[i] aa ac),.int .i64 ((300:Nat):Int)] wr fun e w'=>∃r,ActIs P l[i] 300 r/\ActQ (fun b=>b=o) U i wr M r e w'):=act_post (fuel:=300) (ac:=ac) (HV.out.on S.out) S.out.size HU.out (fun b q=>by rw[q];exact dH) HZ.out (by omega) (by omega) x1 (by omega) cA (cI.on S.out) (by omega)
    have bW:Hid (l[i].text.length<=1000):=x1
    have aO:((300:Nat):Int)=300:=rfl
    rw[aO]at HA
    unfold acells at HA
    generalize l[i]=x at *
    clear s6 cI cA x1 x2 x3 x4 aO
    obtain⟨e0,e1,e2,e3,e4⟩:=o2.out wr S.out
    have eN:g<wr.heap.size:=zg e0
    go_wp2_with fail
    refine HA.out.mono ?_
    rintro e w5⟨r,hr,oa,oc,rfl,aP⟩
    obtain⟨K,cU,e9⟩:=aP.wz
    obtain⟨on,cO⟩:∃on,on=r.e.out.length:=⟨_,rfl⟩
    rw[<-cO]
    obtain⟨N,t8⟩:∃N,N=w5.alloc (.cells #[.int .i64 (r.e.way:Int),.slice oa on oc] 43):=⟨_,rfl⟩
    have h2:Below w5.heap.size w5 N:=by rw[t8];exact zb _ _
    have cF:=S.out.size
    have eV:=e9.size
    have V:Hid (Below w.heap.size w N):=(S.out.trans (e9.toBelow cF HU.out)).trans (h2.mono (by omega))
    have c5:Hid (WZ (fun b=>b=o) K (i+1) N M r.w):=cU.on h2
    have g2:Hid (∀b,K b->w.heap.size<=b):=fun b q=>by
     rcases e9.more b q with z|z
     ·exact HU.out b z
     ·omega
    have c4:Hid (∀r8:Bs->Prop,(∀x∈Tp.ms P,¬r8 x.name->x∈Tp.ms r.w)->LastP r8 K N r.w o n f):=fun r8 hq=>(X.out.tr e9 (fun _ q=>q.elim) hq).on h2
    have eX:=HV.out.on V.out
    have p7:=zh (fun W (hW:Below N.heap.size N W)=>yD W x.text (by have:=bW.out;omega) (HV.out.on (V.out.trans (hW.mono V.out.size))).mks (HV.out.on (V.out.trans (hW.mono V.out.size))).lv)
    obtain⟨d0,d1,_⟩:=o2.out N V.out
    have dF:g<N.heap.size:=zg d0
    have HR:=zh hr
    obtain⟨tl,t5⟩:∃tl,tl=tellN r.err:=⟨_,rfl⟩
    rw[<-t5]
    have g1:=zh t5
    have fJ:=(c5.out.lt c5.out.wb).1
    clear cU e9 h2 aP hr cO t5 HA HZ X S HU e0 e1 e2 e3 e4 eN aY cF eV eX
    go_upto_region 11 with fail
    rw[<-t8]
    clear t8
    go_wp2_with fail
    refine(p7.out _ (Below.refl _ _)).mono ?_
    rintro e w7⟨c7,hq⟩
    unfold ParseP at hq
    cases hp:Tp.parse x.text with
    |error er =>
     rw[hp]at hq
     obtain⟨ab,rfl,_,_,_⟩:=hq
     unfold m0
     obtain⟨I,b0⟩:∃I,I=w7.alloc (.cells #[.string ⟨#[]⟩,.slice none 0 0,.slice none 0 0,.slice none 0 0,.slice none 0 0] 36):=⟨_,rfl⟩
     have a0:Below N.heap.size N I:=c7.trans (by rw[b0];exact(Below.refl _ _).alloc c7.size _)
     have b4:Hid (LastP (fun _=>False) K I r.w o n f):=(c4.out _ (fun y hy _=>by
      obtain⟨k1,k2,_⟩:=act_ms HR.out
      by_cases f2:x.what=1
      ·rw[k2 f2];exact hy
      ·have:=HR.out
       unfold ActIs at this
       rw[if_neg f2,hp]at this
       rw[this];exact hy)).on a0
     have d9:=zh (c5.out.on a0)
     have b5:Hid (Below w.heap.size w I):=V.out.trans (a0.mono V.out.size)
     clear c7 a0 hp c4 HR g1 p7 d0 d1
     go_upto_region 12 with fail
     rw[<-b0]
     clear b0
     go_wp2_with fail
     go_roundg (O-(i+1))
     case measure=>omega
     case rel=>exact⟨i+1,n,K,r.w,f,by omega,by omega,rfl,by go_num,d9,b4,b5,g2⟩
    |ok m =>
     rw[hp]at hq
     obtain⟨v,rfl,cT⟩:=hq
     obtain⟨t9,eS⟩:=Tp.parse_wm hp
     have t2:=zQ t9.n
     obtain⟨G,B,C,E,H,A,D,F,rfl,cM,_⟩:=cT.mdb
     obtain⟨I,b0⟩:∃I,I=w7.alloc (.cells (mcells (bs m.name) (.slice G m.imports.length H) (.slice B m.vars.length A) (.slice C m.procs.length D) (.slice E m.body.length F)) 36):=⟨_,rfl⟩
     have m7:Below w7.heap.size w7 I:=by rw[b0];exact zb _ _
     have a0:Below N.heap.size N I:=c7.trans (m7.mono c7.size)
     have b7:I.heap[w7.heap.size]?=some (.cells (mcells (bs m.name) (.slice G m.imports.length H) (.slice B m.vars.length A) (.slice C m.procs.length D) (.slice E m.body.length F)) 36 (0,0)):=by rw[b0];exact zo _ _
     have d9:=zh (c5.out.on a0)
     have b5:Hid (Below w.heap.size w I):=V.out.trans (a0.mono V.out.size)
     have d7:Hid (tl≠0\/x.what=1->LastP (fun _=>False) K I r.w o n f):=fun eT=>(c4.out _ (fun y hy _=>by
      obtain⟨k1,k2,_⟩:=act_ms HR.out
      by_cases f2:x.what=1
      ·rw[k2 f2];exact hy
      ·rw[k1 (fun e=>(eT.resolve_right f2) (by rw[g1.out,e];rfl))];exact hy)).on a0
     have f8:Hid (tl=0->x.what≠1->LastP (fun k=>k=m.name) K I r.w o n f/\LastM K I r.w o m.name (.agg (mcells (bs m.name) (.slice G m.imports.length H) (.slice B m.vars.length A) (.slice C m.procs.length D) (.slice E m.body.length F))) m G B C E H A D F):=fun h0 h1=>by
      have hn:=act_big HR.out h1 hp (g1.out.symm.trans h0)
      obtain⟨k1,k2⟩:=(act_ms HR.out).2.2 hn h1 m hp
      have fG:o<N.heap.size:=(c4.out (fun _=>True) (fun _ _ q=>absurd trivial q)).2.1.lt
      refine⟨(c4.out _ (fun y hy eR=>k2 y hy eR)).on a0,rfl,cM.mono (fun b T Z=>⟨m7.block b Z,fun q=>?_,by omega⟩),t9,by have:=bW.out;omega,rfl,k1⟩
      have:=(c5.out.lt q).1
      omega
     have fQ:=zf b7
     obtain⟨eI,eJ,_⟩:=o2.out I b5.out
     have fE:g<I.heap.size:=zg eI
     unfold mcells at *
     have fT:I.cell? ⟨w7.heap.size,0,none⟩=some (.string (bs m.name)):=(za b7).trans rfl
     have fU:I.cell? ⟨w7.heap.size,1,none⟩=some (.slice G m.imports.length H):=(za b7).trans rfl
     have fV:I.cell? ⟨w7.heap.size,2,none⟩=some (.slice B m.vars.length A):=(za b7).trans rfl
     have fW:I.cell? ⟨w7.heap.size,3,none⟩=some (.slice C m.procs.length D):=(za b7).trans rfl
     have fX:I.cell? ⟨w7.heap.size,4,none⟩=some (.slice E m.body.length F):=(za b7).trans rfl
     have fK:Hid (x.what=1->x.what=1):=fun e=>e
     clear c7 m7 a0 b7 cT cM t9 eS c4 HR g1 p7 d0 d1 eJ hp c5 V dF
     generalize x.what=wh at *
     go_upto_region 12 with fail
     rw[<-b0]
     clear b0
     by_cases h0:tl=0
     ·subst h0
      have aA:((0:Nat):Int)=0:=rfl
      rw[aA]
      by_cases h1:wh=1
      ·have b4:=zh (d7.out (Or.inr h1))
       subst h1
       clear f8 d7
       go_wp2_with fail
       go_roundg (O-(i+1))
       case measure=>omega
       case rel=>exact⟨i+1,n,K,r.w,f,by omega,by omega,rfl,by go_num,d9,b4,b5,g2⟩
      ·obtain⟨s9,cL⟩:=f8.out rfl h1
       have b4:=zh s9
       have dC:=zh cL
       have eQ:=zh s9.2.1
       clear s9 cL f8 d7
       go_wp2_with (at_mapUpdate;refine zW _ rfl _ _ _ 56 rfl _ Tryz.underlying56 o n f eQ.out (by omega) m.name t2 _ rfl rfl rfl ?_;intro w9 q1 q2 q3)
       have cY:Hid (LastP (fun _=>False) K w9 r.w o (n+1) _):=b4.out.put dC.out q1 q2
       have eG:Hid (WZ (fun b=>b=o) K (i+1) w9 M r.w):=d9.out.other (fun b T hn=>q2.block b T hn) q2.size (fun b q=>Or.inl q)
       have dY:Hid (Below w.heap.size w w9):=b5.out.trans (zT q2 bO.out b5.out.size)
       clear q1 q2 q3
       go_wp2_with fail
       go_roundg (O-(i+1))
       case measure=>omega
       case rel=>exact⟨i+1,n+1,K,r.w,_,by omega,by omega,rfl,by go_num,eG,cY,dY,g2⟩
     ·have fN:¬(tl:Int)=0:=by omega
      have b4:=zh (d7.out (Or.inl h0))
      clear f8 d7
      go_wp2_with fail
      go_roundg (O-(i+1))
      case measure=>omega
      case rel=>exact⟨i+1,n,K,r.w,f,by omega,by omega,rfl,by go_num,d9,b4,b5,g2⟩
   ·have dI:¬(i:Int)<(O:Int):=by omega
    have a9:=X.out.2.1.look (t:=56) Tryz.underlying56 (zeroMod wr) s (by omega) true
    rw[<-p8.out]at a9
    simp only[if_true]at a9
    cases h5:f s with
    |none =>
     rw[h5]at a9
     simp only[Option.getD_none,Option.isSome_none]at a9
     obtain⟨wA,a4⟩:∃wA,wA=wr.alloc (.cells #[.string ⟨#[]⟩,.slice none 0 0,.slice none 0 0,.slice none 0 0,.slice none 0 0] 36):=⟨_,rfl⟩
     have d3:Hid (Below w.heap.size w wA):=S.out.trans (by rw[a4];exact(Below.refl _ _).alloc S.out.size _)
     clear HZ X
     go_upto_region 15 with fail
     rw[<-a4]
     clear a4
     go_wp2_with fail
     go_ret
     exact⟨rfl,d3.out⟩
    |some v =>
     rw[h5]at a9
     simp only[Option.getD_some,Option.isSome_some]at a9
     obtain⟨m,G,B,C,E,H,A,D,F,hm⟩:=X.out.2.2 s v h5 (fun q=>q)
     have eW:=hm.v
     subst eW
     have cQ:=hm.k
     obtain⟨wA,a4⟩:∃wA,wA=wr.alloc (.cells (mcells (bs m.name) (.slice G m.imports.length H) (.slice B m.vars.length A) (.slice C m.procs.length D) (.slice E m.body.length F)) 36):=⟨_,rfl⟩
     have e7:Below wr.heap.size wr wA:=by rw[a4];exact zb _ _
     have f9:Hid (wA.heap[wr.heap.size]?=some (.cells (mcells (bs m.name) (.slice G m.imports.length H) (.slice B m.vars.length A) (.slice C m.procs.length D) (.slice E m.body.length F)) 36 (0,0))):=by show _=_;rw[a4];exact zo _ _
     have d3:Hid (Below w.heap.size w wA):=S.out.trans (e7.mono S.out.size)
     have e5:=zh (HZ.out.on e7)
     have bQ:=zh (hm.md.tr (Tr.below e7))
     have d8:=zh hm.wm
     have p5:=zh hm.nm
     have a2:=zh (uX HZ.out.wi hm.p)
     have bR:=zh cQ
     have aG:Hid (o<wA.heap.size):=by have:=X.out.2.1.lt;have:=e7.size;show _<_;omega
     have p6:Hid (¬U wr.heap.size):=fun q=>by have:=(HZ.out.lt q).1;omega
     obtain⟨s0,cP⟩:∃s0,s0=allB P:=⟨_,rfl⟩
     have i9:=zh e5.out.all
     rw[<-cP]at i9 a2
     clear cP
     obtain⟨d,t1⟩:∃d,d=wr.heap.size:=⟨_,rfl⟩
     rw[<-t1]at f9 p6
     have dQ:=(e5.out.lt e5.out.wb).1
     have aR:=zf f9.out
     clear hm cQ e7 X HZ S aY
     unfold mcells at a9 a4
     go_upto_region 15 with fail
     rw[<-a4,<-t1]
     clear a4 t1 a9 h5
     go_wp2_with fail
     refine i9.out.mono ?_
     rintro e wB⟨rfl,b6⟩
     have n7:Hid (Below w.heap.size w wB):=d3.out.trans (b6.mono d3.out.size)
     have g9:=e5.out.on b6
     have a7:=(b6.block d aR).trans f9.out
     have f6:=bQ.out.tr (Tr.below b6)
     have bS:Hid (Calls Tryz.prog 18 #[.pointer (some ⟨M,0,none⟩),.agg (mcells (bs m.name) (.slice G m.imports.length H) (.slice B m.vars.length A) (.slice C m.procs.length D) (.slice E m.body.length F))] wB (SwapQ (fun b=>b=o) U i wB M (Tp.swapW ofS P m))):=kI g9 (fun b q=>by rw[q];have:=aG.out;have:=b6.size;omega) (by omega) (f6.mb (fun b _ Z=>Z)) f6 (fun b T _=>⟨T.2,T.1⟩) d8.out (by have:=p5.out;omega)
     unfold mcells at *
     have n0:wB.cell? ⟨d,0,none⟩=some (.string (bs m.name)):=(za a7).trans rfl
     have n1:wB.cell? ⟨d,1,none⟩=some (.slice G m.imports.length H):=(za a7).trans rfl
     have n2:wB.cell? ⟨d,2,none⟩=some (.slice B m.vars.length A):=(za a7).trans rfl
     have n3:wB.cell? ⟨d,3,none⟩=some (.slice C m.procs.length D):=(za a7).trans rfl
     have n4:wB.cell? ⟨d,4,none⟩=some (.slice E m.body.length F):=(za a7).trans rfl
     have dR:=(g9.lt g9.wb).1
     have aS:=zf a7
     have bL:=zh a7
     have aH:=zh f6
     have bU:Hid (∀b,U b->w.heap.size<=b):=HU
     have cZ:Hid (o<wB.heap.size):=by have:=aG.out;have:=b6.size;show _<_;omega
     clear g9 a7 f6 b6 i9 f9 bQ e5 d3 dQ aR
     go_wp2_with fail
     refine bS.out.mono ?_
     rintro e wC⟨ev,rfl,b1,a6⟩
     rw[a2.out.1]at a6
     obtain rfl:ev=.nilIface:=a6
     rw[a2.out.2.1]at b1
     obtain⟨K,b1,b8⟩:=b1
     have i7:=zh b1.all
     rw[a2.out.2.2.1]at i7
     have o6:Hid (wC.heap[d]?=some (.cells #[.string (bs m.name),.slice G m.imports.length H,.slice B m.vars.length A,.slice C m.procs.length D,.slice E m.body.length F] 36 (0,0))):=(b8.block d aS p6.out).trans bL.out
     have aI:=zh (aH.out.tr b8)
     have r7:=zh b1
     have d4:Hid (Below w.heap.size w wC):=n7.out.trans (b8.toBelow n7.out.size bU.out)
     have bV:Hid (∀b,K b->w.heap.size<=b):=fun b q=>by
      rcases b8.more b q with z|z
      ·exact bU.out b z
      ·have:=n7.out.size;omega
     have aN:Hid (¬K d):=fun q=>by
      rcases b8.more d q with z|z
      ·exact p6.out z
      ·omega
     have aE:Hid (o<wC.heap.size):=by have:=cZ.out;have:=b8.size;show _<_;omega
     have dS:=(b1.lt b1.wb).1
     have aT:=zf o6.out
     clear b1 b8 bS n0 n1 n2 n3 n4 bL aH dR aS
     go_wp2_with fail
     refine i7.out.mono ?_
     rintro e h⟨rfl,a3⟩
     have a1:=(a3.block d aT).trans o6.out
     have f5:=zh (aI.out.tr (Tr.below a3))
     obtain⟨Q,i2⟩:∃Q,Q=h.alloc (.cells #[.string (bs m.name),.slice G m.imports.length H,.slice B m.vars.length A,.slice C m.procs.length D,.slice E m.body.length F] 36):=⟨_,rfl⟩
     have c9:Below h.heap.size h Q:=by rw[i2];exact zb _ _
     have s2:Below wC.heap.size wC Q:=a3.trans (c9.mono a3.size)
     have n8:Hid (Below w.heap.size w Q):=d4.out.trans (s2.mono d4.out.size)
     have cK:=(c9.block d (zf a1)).trans a1
     have o9:Hid (Q.heap[h.heap.size]?=some (.cells #[.string (bs m.name),.slice G m.imports.length H,.slice B m.vars.length A,.slice C m.procs.length D,.slice E m.body.length F] 36 (0,0))):=by show _=_;rw[i2];exact zo _ _
     have n0:h.cell? ⟨d,0,none⟩=some (.string (bs m.name)):=(za a1).trans rfl
     have n1:h.cell? ⟨d,1,none⟩=some (.slice G m.imports.length H):=(za a1).trans rfl
     have n2:h.cell? ⟨d,2,none⟩=some (.slice B m.vars.length A):=(za a1).trans rfl
     have n3:h.cell? ⟨d,3,none⟩=some (.slice C m.procs.length D):=(za a1).trans rfl
     have n4:h.cell? ⟨d,4,none⟩=some (.slice E m.body.length F):=(za a1).trans rfl
     have dJ:=zf a1
     have fL:=zh (r7.out.on s2)
     have bX:=zh (r7.out.on a3)
     have bA:Hid (Below w.heap.size w h):=d4.out.trans (a3.mono d4.out.size)
     have dD:Hid (d<h.heap.size):=zf a1
     have d6:=zh cK
     have aJ:=zh (f5.out.tr (Tr.below c9))
     have bG:Hid (Below h.heap.size h Q):=c9
     have m3:Hid (o<h.heap.size):=by have:=aE.out;have:=a3.size;show _<_;omega
     have dE:Hid (∀b,K b->b<h.heap.size):=fun b q=>by have:=(r7.out.lt q).1;have:=a3.size;omega
     clear a1 c9 a3 s2 cK i7 o6 aI d4 aE aT dS
     go_upto_region 20 with fail
     go_upto_region 21 with fail
     rw[<-i2]
     clear i2 n0 n1 n3 n4
     have k2:Q.cell? ⟨d,2,none⟩=some (.slice B m.vars.length A):=(za d6.out).trans rfl
     have k3:Q.cell? ⟨d,3,none⟩=some (.slice C m.procs.length D):=(za d6.out).trans rfl
     have f7:=zf d6.out
     have o3:=zh (containsG0 (cap:=A) (Row.gls aJ.out.gl) (by have:=d8.out.gc;omega) fresh1_cf (fun W x _ _=>qk W))
     have d5:Hid (∀W,Below Q.heap.size Q W->Calls Tryz.prog 21 #[.slice C m.procs.length D,.func (.func 22) #[] #[]] W fun e w'=>e=.returned (.bool (m.procs.any fun p=>decide (p.name=freshN)))/\Below W.heap.size W w'):=fun W hW=>containsP0 (MD.prs (aJ.out.tr (Tr.below hW))) (by have:=d8.out.pc;omega) fresh2_cf (fun W x pv vv bv _ _=>qj W)
     have g4:Hid ((m.vars.any fun g=>decide (g.name=freshN))=false->∀v∈m.vars,v.name≠freshN):=fun e v hv q=>by simpa[q] using List.any_eq_false.1 e v hv
     have g0:Hid ((m.procs.any fun g=>decide (g.name=freshN))=false->∀v∈m.procs,v.name≠freshN):=fun e v hv q=>by simpa[q] using List.any_eq_false.1 e v hv
     generalize (m.vars.any fun g=>decide (g.name=freshN))=va at *
     generalize (m.procs.any fun p=>decide (p.name=freshN))=pa' at *
     by_cases dO:m.vars.length<10
     ·have aB:(m.vars.length:Int)<10:=by omega
      go_wp2_with fail
      refine o3.out.mono ?_
      rintro e wF⟨rfl,e8⟩
      have n9:Hid (Below w.heap.size w wF):=n8.out.trans (e8.mono n8.out.size)
      have o4:=zh e8
      have cX:wF.cell? ⟨d,3,none⟩=some (.slice C m.procs.length D):=(e8.cell (p:=⟨d,3,none⟩) f7).trans k3
      have fA:wF.cell? ⟨d,2,none⟩=some (.slice B m.vars.length A):=(e8.cell (p:=⟨d,2,none⟩) f7).trans k2
      have dK:=zg cX
      clear e8 o3 k2 k3 n2
      cases va with
      |true =>
       clear g4 g0 d5
       go_wp2_with fail
       go_ret
       exact⟨rfl,n9.out⟩
      |false =>
       go_wp2_with fail
       refine(d5.out _ o4.out).mono ?_
       rintro e R⟨rfl,s3⟩
       have dZ:Hid (Below w.heap.size w R):=n9.out.trans (s3.mono n9.out.size)
       cases pa' with
       |true =>
        clear g4 g0 d5
        go_wp2_with fail
        go_ret
        exact⟨rfl,dZ.out⟩
       |false =>
        have eF:Hid (∀v∈m.vars,v.name≠freshN):=g4.out (by first|trivial|rfl)
        have eD:Hid (∀p∈m.procs,p.name≠freshN):=g0.out (by first|trivial|rfl)
        have a5:=zh (more_plain bX.out.wi a2.out.2.2.2 eF.out eD.out)
        obtain⟨i0,dG,aA,eY,eZ⟩:=info_parts Tryz.infoGlobal
        have g8:Below Q.heap.size Q R:=o4.out.trans (s3.mono o4.out.size)
        have g7:Below h.heap.size h R:=bG.out.trans (g8.mono bG.out.size)
        have n6:=g7.size
        have eL:h.heap.size<Q.heap.size:=zf o9.out
        have h6:=(g8.block d f7).trans d6.out
        have s8:=(g8.block _ eL).trans o9.out
        have eC:Hid (WZ (fun b=>b=o) K (i+1) h M (Tp.putM P m)):=bX
        have t2:=zf s8
        have aD:=zh s8
        have bM:=zh h6
        have aU:=zf h6
        have cW:R.cell? ⟨d,2,none⟩=some (.slice B m.vars.length A):=(za h6).trans rfl
        have HO:Hid ((R.alloc (.cells #[.string ⟨#[102,114,101,115,104]⟩,.int .i64 0,.int .i64 2,.bool false] 61)).ownsRow R.heap.size 61 4 (.slice (some ⟨R.heap.size,0,none⟩) 1 1) 1 (gcs [freshG])):=⟨rfl,Or.inr ⟨R.heap.size,1,_,rfl,Nat.le_refl _,zo _ _,Nat.le_refl _,by unfold maxLen;omega,rfl,rfl⟩⟩
        have m4:Hid (Row (R.alloc (.cells #[.string ⟨#[102,114,101,115,104]⟩,.int .i64 0,.int .i64 2,.bool false] 61)) (fun _=>True) 61 4 (.slice B m.vars.length A) m.vars.length (gcs m.vars)):=f5.out.gl.mono (fun b _ Z=>⟨(Below.heap_alloc _ _ _ (by omega)).trans (g7.block b Z),trivial⟩)
        have o5:Hid ((gcs m.vars).length=m.vars.length*4):=gcs_len' _
        have bI:Hid (∀u∈gcs m.vars,u.oneCell'=true):=gcs_one' _
        have eB:=zh g7
        obtain⟨vl,t7⟩:∃vl,vl=m.vars.length:=⟨_,rfl⟩
        have r5:=zh t7
        have fC:vl<10:=by omega
        rw[<-t7]at cW m4 o5
        clear s3 g8 g7 h6 s8 t7 g4 g0 d5 fA cX dK f7 d6 o9 dO aB dJ
        go_wp2_with (at_builtin;refine kW _ rfl _ _ 32 rfl R.heap.size 61 i0 (.agg #[.string ⟨#[]⟩,.int .i64 0,.int .i64 0,.bool false]) 4 40 Tryz.underlying32 dG aA eY eZ rfl (by decide) _ 1 _ rfl HO.out (fun _=>True) (.slice B vl A) vl _ rfl m4.out o5.out bI.out (by unfold maxLen;omega) (by omega) (by simp) ?_)
        intro v3 J h3 g3 _
        have q1:J.heap[h.heap.size]?=some (.cells #[.string (bs m.name),.slice G m.imports.length H,.slice B m.vars.length A,.slice C m.procs.length D,.slice E m.body.length F] 36 (0,0)):=(g3.block h.heap.size (by simp;omega) (own_lt (by omega))).trans ((Below.heap_alloc _ _ _ t2).trans aD.out)
        have n2:J.cell? ⟨h.heap.size,2,none⟩=some (.slice B m.vars.length A):=(za q1).trans rfl
        have z2:J.frozen? ⟨h.heap.size,2,none⟩=false:=zi q1
        have fH:=zf q1
        obtain⟨L,f1⟩:∃L,L=J.setCell ⟨h.heap.size,2,none⟩ v3:=⟨_,rfl⟩
        have i5:Ext h.heap.size J L:=by rw[f1];exact(Ext.refl h.heap.size J).set 2 _
        have t3:R.heap.size+1<=J.heap.size:=by have:=g3.size;simpa using this
        have c6:Below h.heap.size h L:=(eB.out.trans (((Below.refl h.heap.size R).alloc n6 _).trans ((Below.refl _ _).grown g3 (by simp;omega) (fun k hk=>by cases hk;exact n6)))).trans (zT i5 zn (by omega))
        have cN:L.ownsRow R.heap.size 61 4 v3 (1+vl) (gcs [freshG]++gcs m.vars):=zH h3 (fun b T Z _=>i5.block b Z (by omega))
        obtain⟨g5,g6,cS,m9⟩:=md_more f5.out c6 n6 dE.out m3.out (by rw[r5.out]) cN
        have a8:L.heap[h.heap.size]?=some (.cells #[.string (bs m.name),.slice G m.imports.length H,v3,.slice C m.procs.length D,.slice E m.body.length F] 36 (0,0)):=by rw[f1];exact(zu 2 v3 q1).trans rfl
        have dP:v3=.slice g5 (Tp.moreV m freshG).vars.length g6:=by
         rw[cS,r5.out]
         show _=Value.slice g5 (m.vars.length+1) g6
         rw[Nat.add_comm]
        rw[dP]at a8 f1
        have f3:WZ (fun b=>b=o) K (i+1) L M (Tp.putM P m):=eC.out.on c6
        have Y:L.heap[d]?=some (.cells #[.string (bs m.name),.slice G m.imports.length H,.slice B m.vars.length A,.slice C m.procs.length D,.slice E m.body.length F] 36 (0,0)):=(i5.block d (by omega) (by have:=dD.out;omega)).trans ((g3.block d (by simp;omega) (own_lt (by omega))).trans ((Below.heap_alloc _ _ _ aU).trans bM.out))
        have dN:=c6.size
        have m5:Hid (Calls Tryz.prog 18 #[.pointer (some ⟨M,0,none⟩),.agg (mcells (bs m.name) (.slice G m.imports.length H) (.slice g5 (Tp.moreV m freshG).vars.length g6) (.slice C m.procs.length D) (.slice E m.body.length F))] L (SwapQ (fun b=>b=o) K (i+1) L M (Tp.swapW ofS (Tp.putM P m) (Tp.moreV m freshG)))):=kI f3 (fun b q=>by rw[q];have:=m3.out;omega) (by omega) (m9.mb (fun b _ Z=>Z)) m9 (fun b T _=>⟨T.2,T.1⟩) (wm_more d8.out (by have:=r5.out;omega)) (by rw[nm_more];have:=p5.out;omega)
        have aK:=zh (f5.out.tr (Tr.below c6))
        have bN:=zh Y
        have fM:=zh f3
        have o0:Hid (Below w.heap.size w L):=bA.out.trans (c6.mono bA.out.size)
        have p0:L.cell? ⟨h.heap.size,0,none⟩=some (.string (bs m.name)):=(za a8).trans rfl
        have p1:L.cell? ⟨h.heap.size,1,none⟩=some (.slice G m.imports.length H):=(za a8).trans rfl
        have p2:L.cell? ⟨h.heap.size,2,none⟩=some (.slice g5 (Tp.moreV m freshG).vars.length g6):=(za a8).trans rfl
        have p3:L.cell? ⟨h.heap.size,3,none⟩=some (.slice C m.procs.length D):=(za a8).trans rfl
        have p4:L.cell? ⟨h.heap.size,4,none⟩=some (.slice E m.body.length F):=(za a8).trans rfl
        have dM:=zf a8
        have aV:=zf Y
        have dT:=(f3.lt f3.wb).1
        have dA:Hid (o<L.heap.size):=by have:=m3.out;show _<_;omega
        unfold mcells at m5
        generalize (Tp.moreV m freshG).vars.length=vm at *
        clear h3 g3 q1 i5 t3 c6 cN m9 a8 f3 Y cS m4 HO o5 bI bM aD aU cW dN
        go_upto_region 23 with fail
        rw[<-f1]
        clear f1 n2 z2
        go_wp2_with fail
        refine m5.out.mono ?_
        rintro e wI⟨ev,rfl,b2,a6⟩
        rw[a5.out.1]at a6
        obtain rfl:ev=.nilIface:=a6
        rw[a5.out.2.1]at b2
        obtain⟨U2,b2,b9⟩:=b2
        have i8:=zh b2.all
        rw[a5.out.2.2.1,a2.out.2.2.1]at i8
        have o7:Hid (wI.heap[d]?=some (.cells #[.string (bs m.name),.slice G m.imports.length H,.slice B m.vars.length A,.slice C m.procs.length D,.slice E m.body.length F] 36 (0,0))):=(b9.block d aV aN.out).trans bN.out
        have aL:=zh (aK.out.tr b9)
        have bY:=zh b2
        have bB:Hid (Below w.heap.size w wI):=o0.out.trans (b9.toBelow o0.out.size bV.out)
        have eE:Hid (∀b,U2 b->w.heap.size<=b):=fun b q=>by
         rcases b9.more b q with z|z
         ·exact bV.out b z
         ·have:=o0.out.size;omega
        have fD:Hid (¬U2 d):=fun q=>by
         rcases b9.more d q with z|z
         ·exact aN.out z
         ·omega
        have aF:Hid (o<wI.heap.size):=by have:=dA.out;have:=b9.size;show _<_;omega
        have dU:=(b2.lt b2.wb).1
        have aW:=zf o7.out
        clear b2 b9 m5 p0 p1 p2 p3 p4 dT aV dM bN aK
        go_wp2_with fail
        refine i8.out.mono ?_
        rintro e wJ⟨rfl,c8⟩
        have f4:=bY.out.on c8
        have bJ:Hid (Calls Tryz.prog 23 #[.pointer (some ⟨M,0,none⟩),.string sb,.string ⟨#[102,114,101,115,104]⟩] wJ (GetP wJ (some [0,0]))):=by
         have:=f4.get (x:=Tp.moreV m freshG) (put_mem a2.out.2.2.2 rfl) freshN (by decide)
         rw[show (Tp.moreV m freshG).name=m.name from rfl,a5.out.2.2.2.1,bR.out,<-p8.out]at this
         exact this
        have o8:=zh ((c8.block d aW).trans o7.out)
        have aM:=zh (aL.out.tr (Tr.below c8))
        have eH:=zh f4
        have bC:Hid (Below w.heap.size w wJ):=bB.out.trans (c8.mono bB.out.size)
        have dB:Hid (o<wJ.heap.size):=by have:=aF.out;have:=c8.size;show _<_;omega
        have dV:=(f4.lt f4.wb).1
        have aX:=zf o8.out
        clear c8 f4 i8 o7 aL bY aF dU aW
        go_wp2_with fail
        refine bJ.out.mono ?_
        rintro e wK⟨s4,oa,oc,rfl,cH⟩
        obtain⟨wL,i3⟩:∃wL,wL=wK.alloc (.cells #[.int .i64 0,.int .i64 0] 2):=⟨_,rfl⟩
        have m8:Below wK.heap.size wK wL:=by rw[i3];exact zb _ _
        have h7:wL.heap[wK.heap.size]?=some (.cells #[.int .i64 0,.int .i64 0] 2 (0,0)):=by rw[i3];exact zo _ _
        have cG:IntsAt wL [0,0] (some ⟨wK.heap.size,0,none⟩):=⟨fun k hk=>⟨_,_,rfl,zf h7,by
         match k,hk with
         | 0,_=>exact(za h7).trans rfl
         | 1,_=>exact(za h7).trans rfl⟩⟩
        have bH:Hid (Calls Tryz.prog 24 #[.slice oa 2 oc,.slice (some ⟨wK.heap.size,0,none⟩) 2 2] wL fun e w'=>e=.returned (.bool true)/\Below wL.heap.size wL w'):=ieq_post (c1:=oc) (c2:=2) (cH.on m8) cG (by decide)
        have aQ:Below wJ.heap.size wJ wL:=s4.trans (m8.mono s4.size)
        have m2:=zh aQ
        clear s4 m8 h7 cG cH aQ bJ
        go_wp2_with fail
        rw[<-i3]
        clear i3
        refine bH.out.mono ?_
        rintro e wM⟨rfl,cC⟩
        have c0:Below wJ.heap.size wJ wM:=m2.out.trans (cC.mono m2.out.size)
        have Y:=(c0.block d aX).trans o8.out
        have n5:=aM.out.tr (Tr.below c0)
        have i6:=eH.out.on c0
        have bD:Hid (Below w.heap.size w wM):=bC.out.trans (c0.mono bC.out.size)
        have fI:=c0.size
        have m6:Hid (Calls Tryz.prog 18 #[.pointer (some ⟨M,0,none⟩),.agg (mcells (bs m.name) (.slice G m.imports.length H) (.slice B m.vars.length A) (.slice C m.procs.length D) (.slice E m.body.length F))] wM (SwapQ (fun b=>b=o) U2 (i+1+1) wM M (Tp.swapW ofS (Tp.putM (Tp.putM P m) (Tp.moreV m freshG)) m))):=kI i6 (fun b q=>by rw[q];have:=dB.out;omega) (by omega) (n5.mb (fun b _ Z=>Z)) n5 (fun b T _=>⟨T.2,T.1⟩) d8.out (by have:=p5.out;omega)
        unfold mcells at m6
        have r0:wM.cell? ⟨d,0,none⟩=some (.string (bs m.name)):=(za Y).trans rfl
        have r1:wM.cell? ⟨d,1,none⟩=some (.slice G m.imports.length H):=(za Y).trans rfl
        have r2:wM.cell? ⟨d,2,none⟩=some (.slice B m.vars.length A):=(za Y).trans rfl
        have r3:wM.cell? ⟨d,3,none⟩=some (.slice C m.procs.length D):=(za Y).trans rfl
        have r4:wM.cell? ⟨d,4,none⟩=some (.slice E m.body.length F):=(za Y).trans rfl
        have dW:=(i6.lt i6.wb).1
        have dL:=zf Y
        clear cC c0 Y n5 i6 bH m2 o8 aM dV aX
        go_wp2_with fail
        refine m6.out.mono ?_
        rintro e wN⟨ev,rfl,b3,a6⟩
        rw[a5.out.2.2.2.2.1]at a6
        obtain rfl:ev=.nilIface:=a6
        rw[a5.out.2.2.2.2.2.1]at b3
        obtain⟨U3,b3,cR⟩:=b3
        have m1:=zh b3.all
        rw[a5.out.2.2.2.2.2.2.1,a2.out.2.2.1]at m1
        have bZ:=zh b3
        have bE:Hid (Below w.heap.size w wN):=bD.out.trans (cR.toBelow bD.out.size eE.out)
        have dX:=(b3.lt b3.wb).1
        clear b3 cR m6 r0 r1 r2 r3 r4 dW dL
        go_wp2_with fail
        refine m1.out.mono ?_
        rintro e wO⟨rfl,s5⟩
        have cV:=bZ.out.on s5
        have aC:Hid (Calls Tryz.prog 23 #[.pointer (some ⟨M,0,none⟩),.string sb,.string ⟨#[102,114,101,115,104]⟩] wO (GetP wO none)):=by
         have:=cV.get (x:=m) (put_mem (put_mem a2.out.2.2.2 (x:=Tp.moreV m freshG) rfl) rfl) freshN (by decide)
         rw[a5.out.2.2.2.2.2.2.2,bR.out,<-p8.out]at this
         exact this
        have bF:Hid (Below w.heap.size w wO):=bE.out.trans (s5.mono bE.out.size)
        clear s5 cV m1 bZ dX
        go_wp2_with fail
        refine aC.out.mono ?_
        rintro e wQ⟨cD,rfl⟩
        have o1:Hid (Below w.heap.size w wQ):=bF.out.trans (cD.mono bF.out.size)
        have bT:=zh (tell_en 7 wQ (HV.out.on o1.out).et)
        clear cD aC
        go_wp2_with fail
        refine bT.out.mono ?_
        rintro e wR⟨rfl,cE⟩
        have eA:Hid (Below w.heap.size w wR):=o1.out.trans (cE.mono o1.out.size)
        clear cE bT
        go_wp2_with fail
        go_ret
        exact⟨rfl,eA.out⟩
     ·have aB:¬(m.vars.length:Int)<10:=by omega
      clear o3 d5
      go_wp2_with fail
      go_ret
      exact⟨rfl,n8.out⟩
end Go.Proofs.YtibncofnnlbmcaaGreatDoor
