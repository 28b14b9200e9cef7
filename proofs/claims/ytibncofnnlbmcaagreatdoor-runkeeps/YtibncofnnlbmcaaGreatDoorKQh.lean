import Derived.Test.YtibncofnnlbmcaaGreatDoorKQg
import Derived.Test.YtibncofnnlbmcaaGreatDoorKUa
import Derived.Test.YtibncofnnlbmcaaGreatDoorKMf
set_option maxRecDepth 100000
set_option maxHeartbeats 4000000
namespace Go.Proofs.YtibncofnnlbmcaaGreatDoor
open Go.RowKit Go.Maps
open Tp (Bs X S G Pr Pt Rs Rr Own)
theorem run_maxI (g:G)(w:World):(Builtin.max_ #[3,3] 3 #[.int .i64 (g.len:Int),.int .i64 1]).run Tryz.prog w=.ok (.int .i64 (vlen g:Int)) w:=by
 have e:(Builtin.max_ #[3,3] 3 #[.int .i64 (g.len:Int),.int .i64 1]).run Tryz.prog w=.ok (.int .i64 (if (1:Int) > (g.len:Int) then 1 else (g.len:Int))) w:=rfl
 rw[e]
 congr 2
 unfold vlen
 by_cases h:g.len=0
 ·rw[if_pos (by omega),if_pos h];rfl
 ·rw[if_neg (by omega),if_neg h]
def FreshP (w:World) (m:Tp.M) (ia ga pa ba:Option Addr) (ic gc pc bc:Nat) (e:Ending) (w':World):Prop:=Below w.heap.size w w'/\∃lb vb sl,e=.returned (.pointer (some ⟨lb,0,none⟩))/\w.heap.size<=lb/\w.heap.size<=vb/\lb≠vb/\w'.heap[lb]?=some (.cells (lcells m ia ga pa ba ic gc pc bc vb) 107 (0,0))/\Laid w' w.heap.size vb m.vars m.vars.length sl/\∀g∈m.vars,sl g.name≠lb/\sl g.name≠vb
theorem xA {w:World}{m:Tp.M}{q a s d:Option Addr}{r c u f:Nat}(h:MB w w.heap.size m q a s d r c u f)(P:Tp.WM m)(hn:(m.vars.map (·.name)).Nodup) :
  Calls Tryz.prog 39 #[.agg (mcells (bs m.name) (.slice q m.imports.length r) (.slice a m.vars.length c) (.slice s m.procs.length u) (.slice d m.body.length f))] w (FreshP w m q a s d r c u f):=by
 have d3:=@run_makeMap Tryz.prog
 obtain⟨x,z⟩:∃x,x=((w.alloc (.cells (mcells (bs m.name) (.slice q m.imports.length r) (.slice a m.vars.length c) (.slice s m.procs.length u) (.slice d m.body.length f)) 36)).alloc (.map #[] 0)).alloc (.cells (lcells m q a s d r c u f (w.heap.size+1)) 107):=⟨_,rfl⟩
 have Y:Below w.heap.size w x:=by rw[z];exact((zb _ _).alloc (by simp) _).alloc (by simp;omega) _
 have d5:x.heap.size=w.heap.size+3:=by rw[z];simp
 have a1:x.heap[w.heap.size]?=some (.cells (mcells (bs m.name) (.slice q m.imports.length r) (.slice a m.vars.length c) (.slice s m.procs.length u) (.slice d m.body.length f)) 36 (0,0)):=by
  rw[z];exact((Below.heap_alloc _ _ _ (by simp;omega)).trans (Below.heap_alloc _ _ _ (by simp))).trans (zo _ _)
 have a5:MapV x (w.heap.size+1) 0 (fun _=>none):=by
  have h1:=MapV.made (w.alloc (.cells (mcells (bs m.name) (.slice q m.imports.length r) (.slice a m.vars.length c) (.slice s m.procs.length u) (.slice d m.body.length f)) 36))
  have h2:(w.alloc (.cells (mcells (bs m.name) (.slice q m.imports.length r) (.slice a m.vars.length c) (.slice s m.procs.length u) (.slice d m.body.length f)) 36)).heap.size=w.heap.size+1:=by simp
  rw[h2]at h1
  refine h1.on ?_
  rw[z]
  exact Below.heap_alloc _ _ _ (by simp)
 have a2:x.heap[w.heap.size+2]?=some (.cells (lcells m q a s d r c u f (w.heap.size+1)) 107 (0,0)):=by
  have:=zo ((w.alloc (.cells (mcells (bs m.name) (.slice q m.imports.length r) (.slice a m.vars.length c) (.slice s m.procs.length u) (.slice d m.body.length f)) 36)).alloc (.map #[] 0)) (.cells (lcells m q a s d r c u f (w.heap.size+1)) 107)
  rw[z]
  simpa using this
 have a3:Laid x (w.heap.size+3) (w.heap.size+1) m.vars 0 (fun _=>0):=⟨by simpa using a5,fun g o=>by simp at o,fun g o=>by simp at o⟩
 have a0:=h.gl
 have HG:Hid (∀i,∀G:i<m.vars.length,∃v,a=some ⟨v,0,none⟩/\v<w.heap.size/\∀j,j<4->w.cell? ⟨v,i*4+j,none⟩=(gcells (bs m.vars[i].name) (m.vars[i].pos:Int) (m.vars[i].len:Int) m.vars[i].seen).toList[j]?):=by
  intro i G
  obtain⟨g,cap,I,H,Q,q4⟩:=yu a0 (by omega)
  cases I
  exact⟨g,rfl,Q,fun j O=>(q4 (i*4+j) (by omega)).trans (xT m.vars i G j O)⟩
 have HW:Hid (∀i,∀G:i<m.vars.length,m.vars[i].name.length<=1000000/\vlen m.vars[i]<=1000):=fun i G=>by
  have:=P.g _ (List.getElem_mem G)
  refine⟨zQ this.n,?_⟩
  have:=this.l
  unfold vlen
  split<;>omega
 have b2:=zh hn
 have k2:x.cell? ⟨w.heap.size,2,none⟩=some (.slice a m.vars.length c):=(za a1).trans rfl
 have b4:m.vars.length<=10:=P.gc
 have U:=zh Y
 have X:=zh a2
 have b0:=zh a3
 clear Y a1 a5 a2 a3 a0 h P hn
 obtain⟨gn,J⟩:∃gn,gn=m.vars.length:=⟨_,rfl⟩
 have V:=zh J
 unfold mcells lcells at *
 rw[<-J]at k2 b4 z ⊢
 clear J
 have c9:(gn:Int)<=10:=by omega
 have d6:w.heap.size<x.heap.size:=by omega
 go_enter Tryz.func39,Tryz.ntmps39
 go_upto_region 2 with fail
 rw[<-z]
 clear z
 go_wp2_with fail
 go_loopg [13] gn (fun k vi wr=>∃(i:Nat) (sl:Bs->Nat),i<=gn/\k=gn-i/\vi=.int .i64 (i:Int)/\Hid (Laid wr (w.heap.size+3) (w.heap.size+1) m.vars i sl)/\Hid (Ext (w.heap.size+1) x wr))
 case atStart=>exact⟨0,fun _=>0,by omega,by omega,rfl,b0,Ext.refl _ _⟩
 case round =>
  obtain⟨i,sl,d0,hk,rfl,y,A⟩:=hrel
  have c5:=A.out.size
  by_cases d1:i<gn
  ·have a8:(i:Int)<(gn:Int):=by omega
   have K:i<m.vars.length:=by have:=V.out;omega
   obtain⟨v,rfl,a7,Z⟩:=HG.out i K
   have C:∀j,j<4->wr.cell? ⟨v,i*4+j,none⟩=(gcells (bs m.vars[i].name) (m.vars[i].pos:Int) (m.vars[i].len:Int) m.vars[i].seen).toList[j]?:=fun j O=>by
    rw[World.cell?_of_block (w:=x) (A.out.block v (by omega) (by omega)),U.out.cell (p:=⟨v,i*4+j,none⟩) a7]
    exact Z j O
   have c0:wr.cell? ⟨v,i*4,none⟩=some (.string (bs m.vars[i].name)):=C 0 (by omega)
   have c1:wr.cell? ⟨v,i*4+1,none⟩=some (.int .i64 (m.vars[i].pos:Int)):=C 1 (by omega)
   have c2:wr.cell? ⟨v,i*4+2,none⟩=some (.int .i64 (m.vars[i].len:Int)):=C 2 (by omega)
   have c3:wr.cell? ⟨v,i*4+3,none⟩=some (.bool m.vars[i].seen):=C 3 (by omega)
   have c4:v<wr.heap.size:=by omega
   obtain⟨a6,b9⟩:=HW.out i K
   obtain⟨W,F⟩:∃W,W=wr.alloc (.cells #[.string (bs m.vars[i].name),.int .i64 (m.vars[i].pos:Int),.int .i64 (m.vars[i].len:Int),.bool m.vars[i].seen] 61):=⟨_,rfl⟩
   have E:Below wr.heap.size wr W:=by rw[F];exact zb _ _
   have b8:W.heap.size=wr.heap.size+1:=by rw[F];simp
   have L:W.heap[wr.heap.size]?=some (.cells #[.string (bs m.vars[i].name),.int .i64 (m.vars[i].pos:Int),.int .i64 (m.vars[i].len:Int),.bool m.vars[i].seen] 61 (0,0)):=by rw[F];exact zo _ _
   have g0:W.cell? ⟨wr.heap.size,0,none⟩=some (.string (bs m.vars[i].name)):=(za L).trans rfl
   have g2:W.cell? ⟨wr.heap.size,2,none⟩=some (.int .i64 (m.vars[i].len:Int)):=(za L).trans rfl
   have T:W.heap[w.heap.size+2]?=some (.cells #[.string (bs m.name),.slice q m.imports.length r,.slice (some ⟨v,0,none⟩) m.vars.length c,.slice s m.procs.length u,.slice d m.body.length f,.map (some (w.heap.size+1))] 107 (0,0)):=by
    rw[E.block _ (by omega),A.out.block _ (by omega) (by omega)]
    exact X.out
   have l5:W.cell? ⟨w.heap.size+1+1,5,none⟩=some (.map (some (w.heap.size+1))):=(za T).trans rfl
   have D:Laid W (w.heap.size+3) (w.heap.size+1) m.vars i sl:=⟨y.out.map.on (E.block _ y.out.map.lt),fun g o=>⟨(y.out.at' g o).1,(E.block _ (zf (y.out.at' g o).2)).trans (y.out.at' g o).2⟩,y.out.inj⟩
   have d2:=vA (vlen m.vars[i]) (by omega)
   have d4:=run_maxI m.vars[i]
   obtain⟨w3,b6,I,H,Q⟩:=(D.map.on (w':=(W.alloc (.cells (ints (List.replicate (vlen m.vars[i]) 0)).toArray 2)).drew) (Below.heap_alloc _ _ _ D.map.lt)).store (t:=105) Tryz.underlying105 (by omega) m.vars[i].name a6 (.slice (some ⟨W.heap.size,0,none⟩) (vlen m.vars[i]) (vlen m.vars[i]))
   have b1:Hid (Laid w3 (w.heap.size+3) (w.heap.size+1) m.vars (i+1) (fun k=>if k=m.vars[i].name then W.heap.size else sl k)):=by
    refine D.add K b2.out (by omega) (by omega) I (fun b N b7=>(H.block b (by show b<(W.alloc _).heap.size;simp;omega) b7).trans (Below.heap_alloc _ _ _ N)) ((H.block _ (by show W.heap.size<(W.alloc _).heap.size;simp) (by omega)).trans (zo _ _)) (fun g o e=>?_)
    have:=(D.at' g o).1
    omega
   have a9:Hid (Ext (w.heap.size+1) x w3):=by
    refine(A.out.trans (Ext.below E)).trans (Ext.trans ?_ H)
    exact⟨rfl,rfl,rfl,by show W.heap.size<=(W.alloc _).heap.size;simp,fun b N _=>Below.heap_alloc _ _ _ N⟩
   have c6:(vlen m.vars[i]:Int)<=1000:=by omega
   have a4:wr.heap.size<W.heap.size:=by omega
   have b5:w.heap.size+1+1<W.heap.size:=by omega
   rw[b8]at b6
   have d7:(W.alloc (.cells (ints (List.replicate (vlen m.vars[i]) 0)).toArray 2)).cell? ⟨w.heap.size+1+1,5,none⟩=some (.map (some (w.heap.size+1))):=(World.cell?_of_block (w:=W) (Below.heap_alloc _ _ _ b5)).trans l5
   have c7:(W.alloc (.cells (ints (List.replicate (vlen m.vars[i]) 0)).toArray 2)).cell? ⟨wr.heap.size,0,none⟩=some (.string (bs m.vars[i].name)):=(World.cell?_of_block (w:=W) (Below.heap_alloc _ _ _ a4)).trans g0
   have c8:(W.alloc (.cells (ints (List.replicate (vlen m.vars[i]) 0)).toArray 2)).cell? ⟨wr.heap.size,2,none⟩=some (.int .i64 (m.vars[i].len:Int)):=(World.cell?_of_block (w:=W) (Below.heap_alloc _ _ _ a4)).trans g2
   clear C E L T D I H Q Z y A a6 b9
   generalize vlen m.vars[i]=vg at *
   generalize m.vars[i].name=nm at *
   generalize (m.vars[i].pos:Int)=ps at *
   generalize (m.vars[i].len:Int)=ln at *
   generalize m.vars[i].seen=sn at *
   go_upto_region 5 with fail
   rw[<-F]
   clear F c0 c1 c2 c3
   go_region
   go_wp2_with fail
   go_roundg (gn-(i+1))
   case measure=>omega
   case rel=>exact⟨i+1,_,by omega,rfl,by go_num,b1,a9⟩
  ·have a8:¬(i:Int)<(gn:Int):=by omega
   have b3:i=m.vars.length:=by have:=V.out;omega
   have S:Below w.heap.size w wr:=U.out.trans (zT A.out (by omega) (by omega))
   have R:wr.heap[w.heap.size+2]?=some (.cells #[.string (bs m.name),.slice q m.imports.length r,.slice a m.vars.length c,.slice s m.procs.length u,.slice d m.body.length f,.map (some (w.heap.size+1))] 107 (0,0)):=by
    rw[A.out.block _ (by omega) (by omega)]
    exact X.out
   have B:=y.out
   rw[b3]at B
   have HR:Hid (FreshP w m q a s d r c u f (.returned (.pointer (some ⟨w.heap.size+2,0,none⟩))) wr):=by
    refine⟨S,w.heap.size+2,w.heap.size+1,sl,rfl,by omega,by omega,by omega,R,⟨B.map,fun g o=>⟨by have:=(B.at' g o).1;omega,(B.at' g o).2⟩,B.inj⟩,fun g o=>?_⟩
    have:=(B.at' g (by simpa using o)).1
    omega
   clear S R B y A
   go_wp2_with fail
   go_ret
   exact HR.out
theorem Tryz.mapNil (w:World):(binOp .eql 26 (.map none) (.map none)).run Tryz.prog w=.ok (.bool true) w:=by kernel_rfl
theorem Tryz.mapSome (b:Nat)(w:World):(binOp .eql 26 (.map (some b)) (.map none)).run Tryz.prog w=.ok (.bool false) w:=by kernel_rfl
def AddP (w:World) (wb lb:Nat) (nm:Bs) (e:Ending) (w':World):Prop:=e=.returned (.tuple #[])/\Ext wb w w'/\∃tb nv,w'.heap[wb]?=some (.cells #[nv,.map (some tb)] 28 (0,0))/\w.heap.size<=tb/\MapV w' tb 1 (updV (fun _=>none) nm (.pointer (some ⟨lb,0,none⟩)))/\w'.ownsRow 0 9 1 nv 1 [.string (bs nm)]/\∀b,nv.ownBlock=some b->w.heap.size<=b/\b≠tb
theorem add_fin {w w2 d:World}{a h:Nat}{nm:Bs}{c:Value}(n:a<w.heap.size)(l:Ext a w w2)(k:MapV w2 w.heap.size 1 (updV (fun _=>none) nm (.pointer (some ⟨h,0,none⟩))))(o:w2.heap.size=w.heap.size+1)(j:d.heap[a]?=some (.cells #[.slice none 0 0,.map (some w.heap.size)] 28 (0,0)))(f:Below w2.heap.size w2 d)(m:d.ownsRow 0 9 1 c 1 [.string (bs nm)])(i:∀g,c.ownBlock=some g->w2.heap.size<=g):AddP w a h nm (.returned (.tuple #[])) (d.setCell ⟨a,0,none⟩ c):=by
 refine⟨rfl,(l.trans (Ext.below f)).set 0 _,w.heap.size,c,(zu 0 _ j).trans rfl,Nat.le_refl _,k.on ((zx _ (by omega)).trans (f.block _ (by omega))),zH m (fun b _ _ e=>zx b (by have:=i b e;omega)),fun b e=>by have:=i b e;omega⟩
theorem add_first {w:World}{a f:Nat}{nm:Bs}{y A B C D:Value}(l:w.heap[a]?=some (.cells #[.slice none 0 0,.map none] 28 (0,0)))(x:w.heap[f]?=some (.cells #[.string (bs nm),y,A,B,C,D] 107 (0,0)))(T:f≠a)(hn:nm.length<=1000000) :
  Calls Tryz.prog 40 #[.pointer (some ⟨a,0,none⟩),.pointer (some ⟨f,0,none⟩)] w (AddP w a f nm):=by
 obtain⟨i1,hi,V,W,X⟩:=info_parts Tryz.infoString
 have a4:=@run_makeMap Tryz.prog
 have a5:=Tryz.mapNil
 have I:=zf l
 have R:=zf x
 have k1:w.cell? ⟨a,1,none⟩=some (.map none):=(za l).trans rfl
 have hz:w.frozen? ⟨a,1,none⟩=false:=zi l
 obtain⟨d,h⟩:∃d,d=(w.setCell ⟨a,1,none⟩ (.map (some w.heap.size))).alloc (.map #[] 0):=⟨_,rfl⟩
 have n:d.heap[a]?=some (.cells #[.slice none 0 0,.map (some w.heap.size)] 28 (0,0)):=by rw[h];exact(Below.heap_alloc _ _ _ (by simpa using I)).trans ((zu 1 _ l).trans rfl)
 have p:d.heap[f]?=some (.cells #[.string (bs nm),y,A,B,C,D] 107 (0,0)):=by rw[h];exact(Below.heap_alloc _ _ _ (by simpa using R)).trans ((zx _ T).trans x)
 have s:d.heap.size=w.heap.size+1:=by rw[h];simp
 have k:Ext a w d:=by
  rw[h]
  exact((Ext.refl a w).set 1 _).trans (Ext.below (zb _ _))
 have G:MapV d w.heap.size 0 (fun _=>none):=by
  have:=MapV.made (w.setCell ⟨a,1,none⟩ (.map (some w.heap.size)))
  rw[set_size]at this
  rw[h]
  exact this
 obtain⟨w2,S,i,c,m⟩:=(G.on (w':=d.drew) rfl).store (t:=26) Tryz.underlying26 (by omega) nm hn (.pointer (some ⟨f,0,none⟩))
 have o:w2.heap[a]?=some (.cells #[.slice none 0 0,.map (some w.heap.size)] 28 (0,0)):=(c.block a (by show a<d.heap.size;omega) (by omega)).trans n
 have r:w2.heap[f]?=some (.cells #[.string (bs nm),y,A,B,C,D] 107 (0,0)):=(c.block f (by show f<d.heap.size;omega) (by omega)).trans p
 have H:w2.heap.size=w.heap.size+1:=m.trans s
 have J:∀b,b<w.heap.size->b≠a->w2.heap[b]?=w.heap[b]?:=fun b Y Z=>(c.block b (by show b<d.heap.size;omega) (by omega)).trans (k.block b Y Z)
 have Q:Hid (Ext a w w2):=⟨c.os.trans k.os,c.tape.trans k.tape,c.output.trans k.output,by omega,J⟩
 have O:=zh i
 have m1:d.cell? ⟨a,1,none⟩=some (.map (some w.heap.size)):=(za n).trans rfl
 have ml:d.cell? ⟨f,0,none⟩=some (.string (bs nm)):=(za p).trans rfl
 have n0:w2.cell? ⟨a,0,none⟩=some (.slice none 0 0):=(za o).trans rfl
 have nl:w2.cell? ⟨f,0,none⟩=some (.string (bs nm)):=(za r).trans rfl
 have a1:a<d.heap.size:=zf n
 have a0:f<d.heap.size:=zf p
 have F:a<w2.heap.size:=zf o
 have M:f<w2.heap.size:=zf r
 have N:=zh o
 have a6:∀ob,(w2.alloc ob).cell? ⟨a,0,none⟩=some (.slice none 0 0):=fun ob=>(World.cell?_of_block (w:=w2) (Below.heap_alloc _ _ _ F)).trans n0
 have a7:∀ob,(w2.alloc ob).cell? ⟨f,0,none⟩=some (.string (bs nm)):=fun ob=>(World.cell?_of_block (w:=w2) (Below.heap_alloc _ _ _ M)).trans nl
 have a2:=zh s
 have P:=zh H
 clear l x n p s k G i c m o r H J
 go_enter Tryz.func40,Tryz.ntmps40
 go_upto_region 2 with fail
 rw[<-h]
 clear h hz k1
 go_region
 clear m1 ml S
 go_upto_region 3 with fail
 go_region_law (first|(refine zY rfl (.tmp 27) (.tmp 33) 25 rfl 0 9 i1 (.string ⟨#[]⟩) 1 16 Tryz.underlying25 hi V W X rfl (by decide) (.slice none 0 0) 0 [] (by simp[Act.eval]) (World.ownsRow_nil _ _ _ _) ⟨w2.heap.size,0,none⟩ 1 1 [.string (bs nm)] (by simp[Act.eval]) rfl ?news (by intro u K;simp at K;subst K;rfl) (by unfold maxLen;omega) (by omega) (by omega) ?_;(case news=>(intro j u v;rw[Addr.add_lit];cases j with|zero=>(simp at v;subst v;first|exact(za (zo w2 _)).trans rfl|exact(za (zo w2.drew _)).trans rfl)|succ j=>simp at v));intro a8 E i c m;obtain⟨a3,c3,U⟩:=zw i;subst U;have q:E.heap[a]?=some (.cells #[.slice none 0 0,.map (some w.heap.size)] 28 (0,0)):=(c.block a (by simp;omega) (fun e=>by cases e)).trans ((Below.heap_alloc w2 _ a F).trans N.out);have n3:E.cell? ⟨a,0,none⟩=some (.slice none 0 0):=(za q).trans rfl;have z3:E.frozen? ⟨a,0,none⟩=false:=zi q;have L:=zh (add_fin I Q.out O.out P.out q (by first|exact⟨c.os,c.tape,c.output,(by have:=c.size;simp at this;omega),fun b hb=>(c.block b (by simp;omega) (fun e=>by cases e)).trans (Below.heap_alloc w2 _ b hb)⟩) i (fun g hg=>(m g hg).elim (fun z=>(by cases z)) (fun z=>(by simp at z;omega))));clear i c m q))
 all_goals exact bodyPost_end (results_none rfl _ _ _) rfl L.out
def VLo (L:List Lo) (b:Nat):Prop:=∃lo∈L,∃g∈lo.m.vars,b=lo.sl g.name
def thrL (L:List Lo) (k:Bs):Option Value:=(L.find? fun lo=>lo.m.name==k).map fun lo=>.pointer (some ⟨lo.lb,0,none⟩)
def StB (X:Nat->Prop) (L:List Lo) (wb tb:Nat) (nv:Value) (b:Nat):Prop:=¬X b/\¬VLo L b/\b≠wb/\b≠tb/\nv.ownBlock≠some b
structure WW (X:Nat->Prop) (w:World) (wb:Nat) (L:List Lo) (P:List Pt) (nv:Value) (tb:Nat):Prop where
 blk:w.heap[wb]?=some (.cells #[nv,.map (some tb)] 28 (0,0))
 xw:¬X wb/\¬VLo L wb
 nm:w.ownsRow 0 9 1 nv L.length (strs (L.map fun lo=>lo.m.name))
 nx:∀b,nv.ownBlock=some b->¬X b/\b≠wb/\b≠tb/\¬VLo L b
 tx:¬X tb/\tb≠wb/\¬VLo L tb
 th:∃n,n<=100/\MapV w tb n (thrL L)
 lo:∀lo∈L,(∃ia ga pa ba ic gc pc bc,w.heap[lo.lb]?=some (.cells (lcells lo.m ia ga pa ba ic gc pc bc lo.vb) 107 (0,0))/\MD w (StB X L wb tb nv) lo.m ia ga pa ba ic gc pc bc)/\StB X L wb tb nv lo.lb/\StB X L wb tb nv lo.vb/\(∃n,MapV w lo.vb n (loV lo))/\Tp.FitM (L.map fun lo=>lo.m) lo.m
 sv:∀b,VLo L b->b<w.heap.size/\¬X b
 nd:(L.map fun lo=>lo.m.name).Nodup
 inj:∀lo∈L,∀lo'∈L,∀g∈lo.m.vars,∀g'∈lo'.m.vars,lo.sl g.name=lo'.sl g'.name->lo.m.name=lo'.m.name/\g.name=g'.name
 vals:∀lo∈L,∃p,Tp.partOf P lo.m.name=some p/\ValOk w lo p
 mw:Tp.ms P=L.map fun lo=>lo.m
theorem yi (w:World)(a:Option Nat)(fuel:Int):Below w.heap.size w (goesW w a fuel):=((zb _ _).alloc (by simp) _).alloc (by simp;omega) _
theorem yx (w:World)(a:Option Nat)(fuel:Int):(goesW w a fuel).heap.size=w.heap.size+3:=by unfold goesW;simp
theorem goesW_gb (w:World)(a:Option Nat)(fuel:Int):(goesW w a fuel).heap[w.heap.size+1]?=some (.cells #[.map a,.int .i64 fuel,.int .i64 0,.slice none 0 0] 152 (0,0)):=by
 unfold goesW
 rw[Below.heap_alloc _ _ _ (by simp)]
 have:=zo (w.alloc (.cells #[.int .i64 0,.slice none 0 0] 43)) (.cells #[.map a,.int .i64 fuel,.int .i64 0,.slice none 0 0] 152)
 simpa using this
def cxOf (w:World) (tb fuel:Nat) (L:List Lo):Cx:=⟨goesW w (some tb) (fuel:Int),w.heap.size+1,tb,L⟩
theorem WW.cx {X:Nat->Prop}{w:World}{u:Nat}{L:List Lo}{P:List Pt}{t:Value}{a:Nat}(h:WW X w u L P t a)(fuel:Nat)(I:fuel<=800000):CxOk (cxOf w a fuel L)/\GS (cxOf w a fuel L) (goesW w (some a) (fuel:Int)) ⟨P,fuel,[]⟩ 0/\∀b,¬OutB (cxOf w a fuel L) (goesW w (some a) (fuel:Int)) b:=by
 have f:=yi w (some a) (fuel:Int)
 have r:=goesW_gb w (some a) (fuel:Int)
 have s:∀{b:Nat} {o:Obj},w.heap[b]?=some o->b<w.heap.size:=fun q=>zf q
 have k:∀b,StB X L u a t b->b<w.heap.size->(goesW w (some a) (fuel:Int)).heap[b]?=w.heap[b]?/\(cxOf w a fuel L).D b:=fun b J c=>⟨f.block b c,by show b<w.heap.size+1;omega,J.2.1⟩
 have y:a<w.heap.size:=by obtain⟨n,_,l⟩:=h.th;exact l.lt
 have x:CxOk (cxOf w a fuel L):=by
  refine⟨⟨by show a<w.heap.size+1;omega,h.tx.2.2⟩,?_,h.nd,fun lo c=>?_,h.inj⟩
  ·obtain⟨n,_,l⟩:=h.th
   exact⟨n,l.on (f.block _ y)⟩
  ·obtain⟨⟨M,B,R,z,N,C,S,A,d,i⟩,F,G,⟨n,j⟩,H⟩:=h.lo lo c
   exact⟨⟨M,B,R,z,N,C,S,A,(f.block _ (s d)).trans d,i.mono k⟩,(k _ F (s d)).2,(k _ G j.lt).2,⟨n,j.on (f.block _ j.lt)⟩,fun g e=>by
    have:=(h.sv _ ⟨lo,c,g,e,rfl⟩).1
    show _<w.heap.size+1
    omega,H⟩
 refine⟨x,⟨fun b _=>rfl,⟨.slice none 0 0,r,World.ownsRow_nil _ _ _ _⟩,h.mw,fun lo c=>?_,by simp,fun v K=>(by cases K),I,by omega⟩,?_⟩
 ·obtain⟨p,O,Q,m⟩:=h.vals lo c
  exact⟨p,O,Q,fun g e=>⟨(m g e).1,(f.block _ (h.sv _ ⟨lo,c,g,e,rfl⟩).1).trans (m g e).2.1,(m g e).2.2⟩⟩
 ·rintro b⟨v,d,i⟩
  have E:(goesW w (some a) (fuel:Int)).cell? ⟨(cxOf w a fuel L).gb,3,none⟩=some (.slice none 0 0):=(za r).trans rfl
  rw[E]at d
  cases d
  cases i
theorem WW.keep {X:Nat->Prop}{w w':World}{g:Nat}{L:List Lo}{P i:List Pt}{f:Value}{d:Nat}(h:WW X w g L P f d)(e:∀b,b<w.heap.size->¬X b->¬VLo L b->w'.heap[b]?=w.heap[b]?)(u:w.heap.size<=w'.heap.size)(F:∀lo∈L,∃p,Tp.partOf i lo.m.name=some p/\ValOk w' lo p)(c:Tp.ms i=L.map fun lo=>lo.m):WW X w' g L i f d:=by
 have x:=zf h.blk
 have v:d<w.heap.size:=by obtain⟨n,_,c⟩:=h.th;exact c.lt
 have j:∀b,StB X L g d f b->b<w.heap.size->w'.heap[b]?=w.heap[b]?/\StB X L g d f b:=fun b k a=>⟨e b a k.1 k.2.1,k⟩
 refine⟨(e _ x h.xw.1 h.xw.2).trans h.blk,h.xw,zH h.nm (fun b _ a t=>e b a (h.nx b t).1 (h.nx b t).2.2.2),h.nx,h.tx,?_,fun lo a=>?_,fun b s=>⟨Nat.lt_of_lt_of_le (h.sv b s).1 u,(h.sv b s).2⟩,h.nd,h.inj,F,c⟩
 ·obtain⟨n,E,c⟩:=h.th
  exact⟨n,E,c.on (e _ v h.tx.1 h.tx.2.2)⟩
 ·obtain⟨⟨G,A,I,y,H,B,J,z,l,C⟩,o,q,⟨n,r⟩,D⟩:=h.lo lo a
  exact⟨⟨G,A,I,y,H,B,J,z,((j _ o (zf l)).1).trans l,C.mono j⟩,o,q,⟨n,r.on (j _ q r.lt).1⟩,D⟩
theorem WW.after {X:Nat->Prop}{w w2 w':World}{o:Nat}{L:List Lo}{P:List Pt}{n:Value}{a fuel k:Nat}{s:Rs}(h:WW X w o L P n a)(u:fuel<=800000)(l:GS (cxOf w a fuel L) w2 s k)(m:Kp (cxOf w a fuel L) nY (goesW w (some a) (fuel:Int)) w2)(i:Ext w.heap.size w2 w'):WW X w' o L s.w n a/\∀b,b<w.heap.size->¬VLo L b->w'.heap[b]?=w.heap[b]?:=by
 obtain⟨z,y,r⟩:=h.cx fuel u
 have t:=yi w (some a) (fuel:Int)
 have B:=yx w (some a) (fuel:Int)
 have A:=m.size
 have j:∀b,b<w.heap.size->¬VLo L b->w'.heap[b]?=w.heap[b]?:=fun b c f =>
  ((i.block b (by omega) (by omega)).trans (m.block b (by omega) (by show b≠w.heap.size+1;omega) f (r b) (fun q=>q))).trans (t.block b c)
 refine⟨h.keep (fun b c _ f=>j b c f) (by have:=i.size;omega) (fun lo c=>?_) l.mw,j⟩
 obtain⟨p,v,x,e⟩:=l.vals lo c
 exact⟨p,v,x,fun g d=>⟨(e g d).1,(i.block _ (zf (e g d).2.1) (by have:=(h.sv _ ⟨lo,c,g,d,rfl⟩).1;omega)).trans (e g d).2.1,(e g d).2.2⟩⟩
def WayA {α:Type}(c:Cx) (w1:World) (r:Rr α) (way:Int) (w2:World):Prop:=match r with
 | .ok _ s'=>way=1/\∃k,GS c w2 s' k/\Kp c nY w1 w2
 | .stop wy s'=>way=(wy:Int)/\∃k,GS c w2 s' k/\Kp c nY w1 w2
 | .gas=>False
theorem held_of {w w2:World}{a fuel k:Nat}{L:List Lo}{s:Rs}(_:CxOk (cxOf w a fuel L))(c:∀b,¬OutB (cxOf w a fuel L) (goesW w (some a) (fuel:Int)) b)(d:∀b,VLo L b->b<w.heap.size)(h:GS (cxOf w a fuel L) w2 s k)(e:Kp (cxOf w a fuel L) nY (goesW w (some a) (fuel:Int)) w2):GoHeld w (goesW w (some a) (fuel:Int)) w2:=by
 have l:=yx w (some a) (fuel:Int)
 refine⟨e.block _ (by omega) (by show w.heap.size≠w.heap.size+1;omega) (fun q=>by have:=d _ q;omega) (c _) (fun q=>q),e.block _ (by omega) (by show w.heap.size+2≠w.heap.size+1;omega) (fun q=>by have:=d _ q;omega) (c _) (fun q=>q),?_⟩
 obtain⟨m,f,g⟩:=h.outIs
 obtain⟨i,j,rfl⟩:=zw g
 exact⟨i,_,j,f⟩
theorem cf_load (args:Array Value)(w:World):(callFunc 42 args).run Tryz.prog w=.ok (.enter 42 args) w:=by kernel_rfl
theorem cf_call (args:Array Value)(w:World):(callFunc 55 args).run Tryz.prog w=.ok (.enter 55 args) w:=by kernel_rfl
theorem load1_post {X:Nat->Prop}{w:World}{wb:Nat}{L:List Lo}{P:List Pt}{Z:Value}{a fuel u i D C gas:Nat}{B:Option Addr}(h:WW X w wb L P Z a)(U:fuel<=800000){lo:Lo}(T:lo∈L)(H:w.cell? ⟨u,0,none⟩=some (.pointer (some ⟨lo.lb,0,none⟩)))(E:w.cell? ⟨i,4,none⟩=some (.slice B D C))
  (O:Ss (cxOf w a fuel L) lo [] lo.m.body (.slice B D C))(y:Tp.goS gas 0 lo.m.name (fun _=>none) lo.m.body ⟨P,fuel,[]⟩≠.gas) :
  Calls Tryz.prog 42 #[.pointer (some ⟨w.heap.size+1,0,none⟩),.pointer (some ⟨u,0,none⟩),.pointer (some ⟨i,0,none⟩)] (goesW w (some a) (fuel:Int)) fun e w2=>GoHeld w (goesW w (some a) (fuel:Int)) w2/\((e=.returned (.tuple #[])/\WayA (cxOf w a fuel L) (goesW w (some a) (fuel:Int)) (Tp.goS gas 0 lo.m.name (fun _=>none) lo.m.body ⟨P,fuel,[]⟩) 1 w2)\/∃way:Int,thrE endT way e/\WayA (cxOf w a fuel L) (goesW w (some a) (fuel:Int)) (Tp.goS gas 0 lo.m.name (fun _=>none) lo.m.body ⟨P,fuel,[]⟩) way w2):=by
 obtain⟨A,M,F⟩:=h.cx fuel U
 have R:∀b,VLo L b->b<w.heap.size:=fun b o=>(h.sv b o).1
 have o:=yi w (some a) (fuel:Int)
 have V:=yx w (some a) (fuel:Int)
 have I:=zh (fun w2 k s=>held_of (w2:=w2) (k:=k) (s:=s) A F R)
 have J:(cxOf w a fuel L).gb=w.heap.size+1:=rfl
 have K:(cxOf w a fuel L).L=L:=rfl
 generalize cxOf w a fuel L=c at *
 generalize goesW w (some a) (fuel:Int)=w1 at *
 obtain⟨d,j⟩:∃d,d=w1.alloc (.cells #[.pointer (some ⟨w.heap.size+1,0,none⟩),.pointer (some ⟨lo.lb,0,none⟩),.map none] 98):=⟨_,rfl⟩
 have l:Below w1.heap.size w1 d:=by rw[j];exact zb _ _
 have N:Sc c d w1.heap.size none lo (fun _=>none) [] fuel:=by
  refine⟨by omega,fun q=>?_,by rw[j,J];exact zo _ _,fun _=>rfl,fun k v q=>(by cases q),fun k=>by simp,by rw[K];exact T⟩
  exact F _ ((yr (l.block c.gb (by omega)) _).1 q)
 have Q:=zh (run_body A gas 0 lo (fun _=>none) [] lo.m.body (.slice B D C) d ⟨P,fuel,[]⟩ w1.heap.size none O (M.below A l) N y)
 have G:w1.cell? ⟨u,0,none⟩=some (.pointer (some ⟨lo.lb,0,none⟩)):=(o.cell (p:=⟨u,0,none⟩) (zg H)).trans H
 have Y:d.cell? ⟨i,4,none⟩=some (.slice B D C):=(l.cell (p:=⟨i,4,none⟩) (by have:=zg E;show i<w1.heap.size;omega)).trans ((o.cell (p:=⟨i,4,none⟩) (zg E)).trans E)
 have a0:u<w1.heap.size:=zg G
 have a1:i<d.heap.size:=zg Y
 have S:Hid (Kp c nY w1 d):=Kp.below l (by omega)
 clear h A M F R o V O N H E l
 generalize Tp.goS gas 0 lo.m.name (fun _=>none) lo.m.body ⟨P,fuel,[]⟩=r at *
 have x:Hid (∀W,Kp c (oY none) d W->Kp c nY w1 W):=fun W q=>S.out.trans (q.mono fun b z=>by cases z)
 clear J K
 cases r with
 |gas=>exact absurd rfl y
 |stop way s' =>
  clear y
  go_enter Tryz.func42,Tryz.ntmps42
  go_upto_region 1 with fail
  rw[<-j]
  clear j G
  go_wp2_with fail
  refine Q.out.mono ?_
  rintro e t⟨⟨older,rfl⟩,⟨k',f⟩,g⟩
  have n:Hid (GoHeld w w1 t/\WayA c w1 (.stop way s':Rr (Own×Option Int)) (way:Int) t):=⟨I.out _ _ _ f (x.out _ g),rfl,k',f,x.out _ g⟩
  clear f g
  go_wp2_with fail
  exact⟨rfl,n.out.1,Or.inr ⟨(way:Int),⟨older,rfl⟩,n.out.2⟩⟩
 |ok r1 s' =>
  clear y
  go_enter Tryz.func42,Tryz.ntmps42
  go_upto_region 1 with fail
  rw[<-j]
  clear j G
  go_wp2_with fail
  refine Q.out.mono ?_
  rintro e t⟨rfl,f,g,_,_⟩
  have n:Hid (GoHeld w w1 t/\WayA c w1 (.ok r1 s') 1 t):=⟨I.out _ _ _ f (x.out _ g),rfl,0,f,x.out _ g⟩
  clear f g
  go_wp2_with fail
  exact bodyPost_end (results_none rfl _ _ _) rfl ⟨n.out.1,Or.inl ⟨rfl,n.out.2⟩⟩
theorem x9 {m:Tp.M}{g:G}(b:(m.vars.map (·.name)).Nodup)(a:g∈m.vars):Tp.fresh m g.name=List.replicate (vlen g) 0:=by
 have:m.vars.find? (fun x=>x.name==g.name)=some g:=Tp.varOf_mem b a
 unfold Tp.fresh vlen
 rw[this]
theorem WW.less {X Y:Nat->Prop}{w:World}{f:Nat}{L:List Lo}{P:List Pt}{d:Value}{e:Nat}(h:WW X w f L P d e)(c:∀b,Y b->X b):WW Y w f L P d e:=by
 have g:∀b,StB X L f e d b->StB Y L f e d b:=fun b q=>⟨fun z=>q.1 (c b z),q.2⟩
 refine⟨h.blk,⟨fun z=>h.xw.1 (c _ z),h.xw.2⟩,h.nm,fun b a=>⟨fun z=>(h.nx b a).1 (c _ z),(h.nx b a).2⟩,⟨fun z=>h.tx.1 (c _ z),h.tx.2⟩,h.th,fun lo t=>?_,fun b a=>⟨(h.sv b a).1,fun z=>(h.sv b a).2 (c _ z)⟩,h.nd,h.inj,h.vals,h.mw⟩
 obtain⟨⟨u,k,x,i,v,l,y,j,m,n⟩,o,p,r,s⟩:=h.lo lo t
 exact⟨⟨u,k,x,i,v,l,y,j,m,n.mono (fun b a _=>⟨rfl,g b a⟩)⟩,g _ o,g _ p,r,s⟩
theorem uY {w:World}{d:Nat}{v:Value}{l:List Int}(h:w.ownsRow d 2 1 v l.length (ints l)):∃oa oc,v=.slice oa l.length oc/\IntsAt w l oa/\(∀a,oa=some a->d<=a.block)/\l.length<=oc:=by
 rcases h.2 with⟨c,j⟩|⟨g,cap,cur,c,hb,hg,h4,h5,h6,h7⟩
 ·exact⟨none,0,by rw[c,j],⟨fun i b=>by omega⟩,fun a e=>(by cases e),by omega⟩
 ·refine⟨_,_,c,⟨fun i b=>⟨g,0,rfl,zf hg,?_⟩⟩,fun a e=>(by cases e;exact hb),h4⟩
  rw[Nat.zero_add,za hg]
  have f:(ints l)[i]?=some (.int .i64 l[i]):=by unfold ints;simp[b]
  rw[<-h7,Nat.mul_one,List.getElem?_take_of_lt b]at f
  simpa using f
structure GonP (X:Nat->Prop) (w:World) (wb:Nat) (L:List Lo) (nv:Value) (tb:Nat) (P':List Pt) (out:List Int) (oa:Option Addr) (w':World):Prop where
 ww:WW X w' wb L P' nv tb
 keep:∀b,b<w.heap.size->¬VLo L b->w'.heap[b]?=w.heap[b]?
 it:IntsAt w' out oa
 oi:∀v∈out,Tp.I64 v
 ol:out.length<=200
 far:∀a,oa=some a->w.heap.size<=a.block
 size:w.heap.size<=w'.heap.size
 os:w'.os=w.os
 tape:w'.tape=w.tape
 output:w'.output=w.output
theorem gone {α:Type}{X:Nat->Prop}{w w':World}{p:Nat}{L:List Lo}{P:List Pt}{o:Value}{d fuel:Nat}{r:Rr α}{e:Ending}(h:WW X w p L P o d)(I:fuel<=800000)(J:GoesP w (WayA (cxOf w d fuel L) (goesW w (some d) (fuel:Int)) r) e w') :
  ∃j l,e=.returned (.agg #[.int .i64 ((Tp.endOf r).2.way:Int),.slice j (Tp.endOf r).2.out.length l])/\(Tp.endOf r).2.out.length<=l/\GonP X w p L o d (Tp.endOf r).1 (Tp.endOf r).2.out j w':=by
 obtain⟨w2,S,j,M,l,n,H,y,i⟩:=J
 have t:∀(s:Rs) (k:Nat),GS (cxOf w d fuel L) w2 s k->Kp (cxOf w d fuel L) nY (goesW w (some d) (fuel:Int)) w2->M=s.out.length/\s.out.length<=l/\GonP X w p L o d s.w s.out j w':=by
  intro s k f c
  have g:=yi w (some d) (fuel:Int)
  have O:=g.size
  obtain⟨B,A⟩:=h.after I f c i
  obtain⟨N,F,v⟩:=f.outIs
  have u:w2.cell? ⟨w.heap.size+1,3,none⟩=some N:=F
  rw[H]at u
  have G:=(Option.some.inj u).symm
  rw[G]at v
  have z:=zH (w':=w') v (fun b g K _=>i.block b K (by have:w.heap.size+1+1<=b:=g;omega))
  obtain⟨Q,R,m,C,D,E⟩:=uY z
  injection m with m e4 e5
  subst m
  exact⟨e4,by rw[e5];exact E,B,A,C,f.oi,f.ol,fun a q=>by have:w.heap.size+1+1<=a.block:=D a q;omega,by have:=c.size;have:=i.size;omega,(i.os.trans c.os).trans g.os,(i.tape.trans c.tape).trans g.tape,(i.output.trans c.output).trans g.output⟩
 cases r with
 |gas=>exact n.elim
 |ok x s=>obtain⟨rfl,k,f,c⟩:=n;obtain⟨rfl,q⟩:=t s k f c;exact⟨j,l,y,q⟩
 |stop wy s=>obtain⟨rfl,k,f,c⟩:=n;obtain⟨rfl,q⟩:=t s k f c;exact⟨j,l,y,q⟩
theorem ss_body {Y:Nat->Prop}{w:World}{y d fuel:Nat}{L:List Lo}{P:List Pt}{u:Value}{lo:Lo}{s l v e:Option Addr}{t n x f:Nat}(h:WW Y w y L P u d)(r:fuel<=800000)(j:lo∈L)(g:w.heap[lo.lb]?=some (.cells (lcells lo.m s l v e t n x f lo.vb) 107 (0,0))):Ss (cxOf w d fuel L) lo [] lo.m.body (.slice e lo.m.body.length f):=by
 have c:=(h.cx fuel r).1.lo lo j
 obtain⟨D,B,F,z,E,C,G,A,o,p⟩:=c.blk
 have q:=((yi w (some d) (fuel:Int)).block lo.lb (zf g)).trans g
 have a:=o.symm.trans q
 unfold lcells at a
 simp only[Option.some.injEq,Obj.cells.injEq,Array.mk.injEq,List.cons.injEq,Value.slice.injEq]at a
 obtain⟨i,k,b2⟩:=p.bd
 refine⟨⟨i,k,?_⟩,c.fit.wm.b,c.fit.bd⟩
 rw[<-a.1.2.2.2.2.1.1,<-a.1.2.2.2.2.1.2.2]
 exact b2
def ErrV (B:Nat) (w':World) (er:Nat×Option Nat) (v:Value):Prop:=match er.2 with
 |none=>v=.iface 44 (.int .i64 (er.1:Int))
 |some pl=>∃ab,v=.iface 117 (.pointer (some ⟨ab,0,none⟩))/\B<=ab/\w'.cell? ⟨ab,0,none⟩=some (.int .i64 (er.1:Int))/\w'.cell? ⟨ab,1,none⟩=some (.int .i64 (pl:Int))
def no2:Value:=.agg #[.int .i64 0,.slice none 0 0]
theorem ieq_post {w:World}{a b:List Int}{B C:Option Addr}{c1 c2:Nat}(r:IntsAt w a B)(s:IntsAt w b C)(F:a.length<=1000) :
  Calls Tryz.prog 24 #[.slice B a.length c1,.slice C b.length c2] w fun e w'=>e=.returned (.bool (decide (a=b)))/\Below w.heap.size w w':=by
 by_cases h:a.length=b.length
 ·rw[<-h]
  have N:=zh r
  have O:=zh s
  obtain⟨d,l⟩:∃d,d=a.length:=⟨_,rfl⟩
  have W:(d:Int)<=1000:=by omega
  have g:=zh (And.intro l h)
  obtain⟨bb,j⟩:∃bb,bb=decide (a=b):=⟨_,rfl⟩
  have v:=zh j
  rw[<-j,<-l]
  clear r s h l j F
  go_enter Tryz.func24,Tryz.ntmps24
  go_wp2_with fail
  go_loopg [13] d (fun k R wr=>∃i:Nat,i<=d/\k=d-i/\R=.int .i64 (i:Int)/\Hid (∀k,k<i->a[k]?=b[k]?)/\Hid (Below w.heap.size w wr))
  case atStart=>exact⟨0,by omega,by omega,rfl,fun k E=>by omega,Below.refl _ _⟩
  case round =>
   obtain⟨i,U,E,rfl,A,f⟩:=hrel
   have S:=f.out.size
   by_cases V:i<d
   ·have I:(i:Int)<(d:Int):=by omega
    have T:¬(i:Int)<0:=by omega
    have G:i<a.length:=by have:=g.out.1;omega
    have H:i<b.length:=by have:=g.out.1;have:=g.out.2;omega
    obtain⟨Y,o1,rfl,q1,P⟩:=(N.out.on f.out).c i G
    obtain⟨b2,o2,rfl,q2,Q⟩:=(O.out.on f.out).c i H
    have L:Hid (a[i]=b[i]->∀k,k<i+1->a[k]?=b[k]?):=by
     intro e k E
     by_cases D:k=i
     ·subst D;rw[List.getElem?_eq_getElem G,List.getElem?_eq_getElem H,e]
     ·exact A.out k (by omega)
    have K:Hid (a[i]≠b[i]->bb=false):=by
     intro e
     rw[v.out]
     refine decide_eq_false fun q=>e ?_
     subst q
     rfl
    generalize a[i]=x at *
    generalize b[i]=y at *
    go_upto_region 6 with fail
    go_quiet (fail)
    obtain⟨t,o⟩:∃t,t=wr.drewN nq:=⟨_,rfl⟩
    have u:Hid (Below w.heap.size w t):=by rw[o];exact below_drewN f.out _
    rw[<-o]
    clear o P Q
    by_cases z:x=y
    ·subst z
     have J:=zh (L.out rfl)
     go_wp2_with fail
     go_roundg (d-(i+1))
     case measure=>omega
     case rel=>exact⟨i+1,by omega,rfl,by go_num,J,u⟩
    ·have p:=zh (K.out z)
     go_wp2_with fail
     go_ret
     exact⟨by rw[p.out];rfl,u.out⟩
   ·have I:¬(i:Int)<(d:Int):=by omega
    have p:Hid (bb=true):=by
     show bb=true
     rw[v.out]
     refine decide_eq_true (List.ext_getElem? fun k=>?_)
     by_cases M:k<i
     ·exact A.out k M
     ·have Z:=g.out.1
      have D:=g.out.2
      rw[List.getElem?_eq_none (by omega),List.getElem?_eq_none (by omega)]
    go_wp2_with fail
    go_ret
    exact⟨by rw[p.out];rfl,f.out⟩
 ·have X:¬(a.length:Int)=(b.length:Int):=by omega
  have hd:decide (a=b)=false:=decide_eq_false fun q=>h (by rw[q])
  rw[hd]
  clear hd h r s F
  generalize a.length=m at *
  generalize b.length=n at *
  go_enter Tryz.func24,Tryz.ntmps24
  go_wp2_with fail
  go_ret
  exact⟨rfl,Below.refl _ _⟩
end Go.Proofs.YtibncofnnlbmcaaGreatDoor
namespace Go.Proofs.YtibncofnnlbmcaaGreatDoor
open Go.RowKit
theorem Tryz.eqNilI (w:World):(binOp .eql 29 (.slice none 0 0) (.slice none 0 0)).run Tryz.prog w=.ok (.bool true) w:=by kernel_rfl
theorem Tryz.eqSomeI (w:World)(a:Addr)(n c:Nat):(binOp .eql 29 (.slice (some a) n c) (.slice none 0 0)).run Tryz.prog w=.ok (.bool false) w:=by kernel_rfl
theorem cloneI {w:World}{D:Nat->Prop}{v:Value}{n:Nat}{cs:List Value}(h:Row w D 2 1 v n cs)(a:cs.length=n*1)(m:∀u∈cs,u.oneCell'=true)(L:n<=1000) :
  Calls Tryz.prog 52 #[v] w fun e w'=>∃v',e=.returned v'/\Below w.heap.size w w'/\w'.ownsRow w.heap.size 2 1 v' n cs:=by
 have J:=Tryz.eqNilI
 have K:=Tryz.eqSomeI
 obtain⟨H,F,z,A,B⟩:=info_parts Tryz.infoInt64
 rcases h with⟨rfl,rfl,rfl⟩|⟨g,cap,cur,rfl,hD,hb,hcap,hmx,hsz,htk⟩
 ·go_enter Tryz.func52,Tryz.ntmps52
  go_wp2_with fail
  go_ret
  exact⟨_,rfl,Below.refl _ _,World.ownsRow_nil _ _ _ _⟩
 ·have d:Below w.heap.size w (w.alloc (.cells #[] 2)):=zb _ _
  have c:(w.alloc (.cells #[] 2)).ownsRow w.heap.size 2 1 (.slice (some ⟨w.heap.size,0,none⟩) 0 0) 0 [] :=
   ⟨rfl,Or.inr ⟨w.heap.size,0,#[],rfl,Nat.le_refl _,zo _ _,Nat.le_refl _,by unfold maxLen;omega,rfl,rfl⟩⟩
  have f:(w.alloc (.cells #[] 2)).heap[g]?=some (.cells cur 2 (0,0)):=(Below.heap_alloc _ _ _ (zf hb)).trans hb
  have b:∀j u,cs[j]?=some u->(w.alloc (.cells #[] 2)).cell? ((⟨g,0,none⟩:Addr).add j)=some u:=by
   intro j u p
   have y:j<n*1:=by rw[<-a];exact(List.getElem?_eq_some_iff.1 p).1
   rw[Addr.add_lit,za f,Nat.zero_add,<-Array.getElem?_toList,<-p,<-htk,List.getElem?_take_of_lt y]
  have i:=zh c
  have r:=zh d
  have t:=zh b
  have E:=zh a
  have C:=zh m
  clear c d f hb b a m hsz htk
  go_enter Tryz.func52,Tryz.ntmps52
  go_wp2_with (at_builtin;refine zC _ rfl _ _ 29 rfl w.heap.size 2 H (.int .i64 0) 1 8 Tryz.underlying29 F z A B rfl (by decide) _ 0 [] rfl i.out ⟨g,0,none⟩ n cap cs rfl E.out t.out C.out (by unfold maxLen;omega) (by omega) (by simp) ?_)
  intro I q o l _
  have s:Hid (Below w.heap.size w q):=r.out.trans ((Below.refl w.heap.size _).grown l (by simp) (fun k G=>(i.out.lt k G).1))
  have x:Hid (q.ownsRow w.heap.size 2 1 I n cs):=by unfold Hid;simpa using o
  clear o l
  go_wp2_with fail
  go_ret
  exact⟨_,rfl,s.out,x.out⟩
theorem Tryz.eqNilT (w:World):(binOp .eql 25 (.slice none 0 0) (.slice none 0 0)).run Tryz.prog w=.ok (.bool true) w:=by kernel_rfl
theorem Tryz.eqSomeT (w:World)(a:Addr)(n c:Nat):(binOp .eql 25 (.slice (some a) n c) (.slice none 0 0)).run Tryz.prog w=.ok (.bool false) w:=by kernel_rfl
theorem cloneT {w:World}{D:Nat->Prop}{v:Value}{n:Nat}{cs:List Value}(h:Row w D 9 1 v n cs)(a:cs.length=n*1)(m:∀u∈cs,u.oneCell'=true)(L:n<=1000) :
  Calls Tryz.prog 76 #[v] w fun e w'=>∃v',e=.returned v'/\Below w.heap.size w w'/\w'.ownsRow w.heap.size 9 1 v' n cs:=by
 have J:=Tryz.eqNilT
 have K:=Tryz.eqSomeT
 obtain⟨H,F,z,A,B⟩:=info_parts Tryz.infoString
 rcases h with⟨rfl,rfl,rfl⟩|⟨g,cap,cur,rfl,hD,hb,hcap,hmx,hsz,htk⟩
 ·go_enter Tryz.func76,Tryz.ntmps76
  go_wp2_with fail
  go_ret
  exact⟨_,rfl,Below.refl _ _,World.ownsRow_nil _ _ _ _⟩
 ·have d:Below w.heap.size w (w.alloc (.cells #[] 9)):=zb _ _
  have c:(w.alloc (.cells #[] 9)).ownsRow w.heap.size 9 1 (.slice (some ⟨w.heap.size,0,none⟩) 0 0) 0 [] :=
   ⟨rfl,Or.inr ⟨w.heap.size,0,#[],rfl,Nat.le_refl _,zo _ _,Nat.le_refl _,by unfold maxLen;omega,rfl,rfl⟩⟩
  have f:(w.alloc (.cells #[] 9)).heap[g]?=some (.cells cur 9 (0,0)):=(Below.heap_alloc _ _ _ (zf hb)).trans hb
  have b:∀j u,cs[j]?=some u->(w.alloc (.cells #[] 9)).cell? ((⟨g,0,none⟩:Addr).add j)=some u:=by
   intro j u p
   have y:j<n*1:=by rw[<-a];exact(List.getElem?_eq_some_iff.1 p).1
   rw[Addr.add_lit,za f,Nat.zero_add,<-Array.getElem?_toList,<-p,<-htk,List.getElem?_take_of_lt y]
  have i:=zh c
  have r:=zh d
  have t:=zh b
  have E:=zh a
  have C:=zh m
  clear c d f hb b a m hsz htk
  go_enter Tryz.func76,Tryz.ntmps76
  go_wp2_with (at_builtin;refine zC _ rfl _ _ 25 rfl w.heap.size 9 H (.string ⟨#[]⟩) 1 16 Tryz.underlying25 F z A B rfl (by decide) _ 0 [] rfl i.out ⟨g,0,none⟩ n cap cs rfl E.out t.out C.out (by unfold maxLen;omega) (by omega) (by simp) ?_)
  intro I q o l _
  have s:Hid (Below w.heap.size w q):=r.out.trans ((Below.refl w.heap.size _).grown l (by simp) (fun k G=>(i.out.lt k G).1))
  have x:Hid (q.ownsRow w.heap.size 9 1 I n cs):=by unfold Hid;simpa using o
  clear o l
  go_wp2_with fail
  go_ret
  exact⟨_,rfl,s.out,x.out⟩
end Go.Proofs.YtibncofnnlbmcaaGreatDoor
