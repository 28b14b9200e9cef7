import Derived.Test.YtibncofnnlbmcaaGreatDoorLQg
import Derived.Test.YtibncofnnlbmcaaGreatDoorLUa
import Derived.Test.YtibncofnnlbmcaaGreatDoorLMf
set_option maxRecDepth 100000
set_option maxHeartbeats 4000000
namespace Go.Proofs.YtibncofnnlbmcaaGreatDoor
open Go.RowKit Go.Maps
open Tp (Bs X S G Pr Pt Rs Rr Own)
theorem run_maxI (g:G)(w:World):(Builtin.max_ #[3,3] 3 #[.int .i64 (g.len:Int),.int .i64 1]).run Tryz.prog w=.ok (.int .i64 (vlen g:Int)) w:=by
 have e:(Builtin.max_ #[3,3] 3 #[.int .i64 (g.len:Int),.int .i64 1]).run Tryz.prog w=.ok (.int .i64 (if (1:Int) > (g.len:Int) then 1 else (g.len:Int))) w:=rfl
 rw[e]
 congr 2
 unfold vlen
 by_cases h:g.len=0
 ·rw[if_pos (by omega),if_pos h];rfl
 ·rw[if_neg (by omega),if_neg h]
def FreshP (w:World) (m:Tp.M) (ia ga pa ba:Option Addr) (ic gc pc bc:Nat) (e:Ending) (w':World):Prop:=Below w.heap.size w w'/\∃lb vb sl,e=.returned (.pointer (some ⟨lb,0,none⟩))/\w.heap.size<=lb/\w.heap.size<=vb/\lb≠vb/\w'.heap[lb]?=some (.cells (lcells m ia ga pa ba ic gc pc bc vb) 107 (0,0))/\Laid w' w.heap.size vb m.vars m.vars.length sl/\∀g∈m.vars,sl g.name≠lb/\sl g.name≠vb
theorem xv {w:World}{m:Tp.M}{o c f s:Option Addr}{q a r u:Nat}(h:MB w w.heap.size m o c f s q a r u)(N:Tp.WM m)(hn:(m.vars.map (·.name)).Nodup) :
  Calls Tryz.prog 39 #[.agg (mcells (bs m.name) (.slice o m.imports.length q) (.slice c m.vars.length a) (.slice f m.procs.length r) (.slice s m.body.length u))] w (FreshP w m o c f s q a r u):=by
 have d6:=@run_makeMap Tryz.prog
 obtain⟨v,z⟩:∃v,v=((w.alloc (.cells (mcells (bs m.name) (.slice o m.imports.length q) (.slice c m.vars.length a) (.slice f m.procs.length r) (.slice s m.body.length u)) 36)).alloc (.map #[] 0)).alloc (.cells (lcells m o c f s q a r u (w.heap.size+1)) 107):=⟨_,rfl⟩
 have a2:Below w.heap.size w v:=by rw[z];exact((zb _ _).alloc (by simp) _).alloc (by simp;omega) _
 have d2:v.heap.size=w.heap.size+3:=by rw[z];simp
 have a6:v.heap[w.heap.size]?=some (.cells (mcells (bs m.name) (.slice o m.imports.length q) (.slice c m.vars.length a) (.slice f m.procs.length r) (.slice s m.body.length u)) 36 (0,0)):=by
  rw[z];exact((Below.heap_alloc _ _ _ (by simp;omega)).trans (Below.heap_alloc _ _ _ (by simp))).trans (zo _ _)
 have Y:MapV v (w.heap.size+1) 0 (fun _=>none):=by
  have h1:=MapV.made (w.alloc (.cells (mcells (bs m.name) (.slice o m.imports.length q) (.slice c m.vars.length a) (.slice f m.procs.length r) (.slice s m.body.length u)) 36))
  have h2:(w.alloc (.cells (mcells (bs m.name) (.slice o m.imports.length q) (.slice c m.vars.length a) (.slice f m.procs.length r) (.slice s m.body.length u)) 36)).heap.size=w.heap.size+1:=by simp
  rw[h2]at h1
  refine h1.on ?_
  rw[z]
  exact Below.heap_alloc _ _ _ (by simp)
 have a1:v.heap[w.heap.size+2]?=some (.cells (lcells m o c f s q a r u (w.heap.size+1)) 107 (0,0)):=by
  have:=zo ((w.alloc (.cells (mcells (bs m.name) (.slice o m.imports.length q) (.slice c m.vars.length a) (.slice f m.procs.length r) (.slice s m.body.length u)) 36)).alloc (.map #[] 0)) (.cells (lcells m o c f s q a r u (w.heap.size+1)) 107)
  rw[z]
  simpa using this
 have a3:Laid v (w.heap.size+3) (w.heap.size+1) m.vars 0 (fun _=>0):=⟨by simpa using Y,fun g d=>by simp at d,fun g d=>by simp at d⟩
 have Z:=h.gl
 have HG:Hid (∀i,∀F:i<m.vars.length,∃x,c=some ⟨x,0,none⟩/\x<w.heap.size/\∀j,j<4->w.cell? ⟨x,i*4+j,none⟩=(gcells (bs m.vars[i].name) (m.vars[i].pos:Int) (m.vars[i].len:Int) m.vars[i].seen).toList[j]?):=by
  intro i F
  obtain⟨g,cap,I,G,O,q4⟩:=yt Z (by omega)
  cases I
  exact⟨g,rfl,O,fun j P=>(q4 (i*4+j) (by omega)).trans (xK m.vars i F j P)⟩
 have HW:Hid (∀i,∀F:i<m.vars.length,m.vars[i].name.length<=1000000/\vlen m.vars[i]<=1000):=fun i F=>by
  have:=N.g _ (List.getElem_mem F)
  refine⟨zQ this.n,?_⟩
  have:=this.l
  unfold vlen
  split<;>omega
 have b2:=zh hn
 have k2:v.cell? ⟨w.heap.size,2,none⟩=some (.slice c m.vars.length a):=(za a6).trans rfl
 have a9:m.vars.length<=10:=N.gc
 have X:=zh a2
 have V:=zh a1
 have b3:=zh a3
 clear a2 a6 Y a1 a3 Z h N hn
 obtain⟨gn,J⟩:∃gn,gn=m.vars.length:=⟨_,rfl⟩
 have U:=zh J
 unfold mcells lcells at *
 rw[<-J]at k2 a9 z ⊢
 clear J
 have d3:(gn:Int)<=10:=by omega
 have d0:w.heap.size<v.heap.size:=by omega
 go_enter Tryz.func39,Tryz.ntmps39
 go_upto_region 2 with fail
 rw[<-z]
 clear z
 go_wp2_with fail
 go_loopg [13] gn (fun k vi wr=>∃(i:Nat) (sl:Bs->Nat),i<=gn/\k=gn-i/\vi=.int .i64 (i:Int)/\Hid (Laid wr (w.heap.size+3) (w.heap.size+1) m.vars i sl)/\Hid (Ext (w.heap.size+1) v wr))
 case atStart=>exact⟨0,fun _=>0,by omega,by omega,rfl,b3,Ext.refl _ _⟩
 case round =>
  obtain⟨i,sl,d1,hk,rfl,y,A⟩:=hrel
  have c5:=A.out.size
  by_cases c7:i<gn
  ·have a7:(i:Int)<(gn:Int):=by omega
   have L:i<m.vars.length:=by have:=U.out;omega
   obtain⟨x,rfl,a8,a4⟩:=HG.out i L
   have C:∀j,j<4->wr.cell? ⟨x,i*4+j,none⟩=(gcells (bs m.vars[i].name) (m.vars[i].pos:Int) (m.vars[i].len:Int) m.vars[i].seen).toList[j]?:=fun j P=>by
    rw[World.cell?_of_block (w:=v) (A.out.block x (by omega) (by omega)),X.out.cell (p:=⟨x,i*4+j,none⟩) a8]
    exact a4 j P
   have c0:wr.cell? ⟨x,i*4,none⟩=some (.string (bs m.vars[i].name)):=C 0 (by omega)
   have c1:wr.cell? ⟨x,i*4+1,none⟩=some (.int .i64 (m.vars[i].pos:Int)):=C 1 (by omega)
   have c2:wr.cell? ⟨x,i*4+2,none⟩=some (.int .i64 (m.vars[i].len:Int)):=C 2 (by omega)
   have c3:wr.cell? ⟨x,i*4+3,none⟩=some (.bool m.vars[i].seen):=C 3 (by omega)
   have c4:x<wr.heap.size:=by omega
   obtain⟨a0,b6⟩:=HW.out i L
   obtain⟨W,H⟩:∃W,W=wr.alloc (.cells #[.string (bs m.vars[i].name),.int .i64 (m.vars[i].pos:Int),.int .i64 (m.vars[i].len:Int),.bool m.vars[i].seen] 61):=⟨_,rfl⟩
   have E:Below wr.heap.size wr W:=by rw[H];exact zb _ _
   have b4:W.heap.size=wr.heap.size+1:=by rw[H];simp
   have K:W.heap[wr.heap.size]?=some (.cells #[.string (bs m.vars[i].name),.int .i64 (m.vars[i].pos:Int),.int .i64 (m.vars[i].len:Int),.bool m.vars[i].seen] 61 (0,0)):=by rw[H];exact zo _ _
   have g0:W.cell? ⟨wr.heap.size,0,none⟩=some (.string (bs m.vars[i].name)):=(za K).trans rfl
   have g2:W.cell? ⟨wr.heap.size,2,none⟩=some (.int .i64 (m.vars[i].len:Int)):=(za K).trans rfl
   have S:W.heap[w.heap.size+2]?=some (.cells #[.string (bs m.name),.slice o m.imports.length q,.slice (some ⟨x,0,none⟩) m.vars.length a,.slice f m.procs.length r,.slice s m.body.length u,.map (some (w.heap.size+1))] 107 (0,0)):=by
    rw[E.block _ (by omega),A.out.block _ (by omega) (by omega)]
    exact V.out
   have l5:W.cell? ⟨w.heap.size+1+1,5,none⟩=some (.map (some (w.heap.size+1))):=(za S).trans rfl
   have D:Laid W (w.heap.size+3) (w.heap.size+1) m.vars i sl:=⟨y.out.map.on (E.block _ y.out.map.lt),fun g d=>⟨(y.out.at' g d).1,(E.block _ (zf (y.out.at' g d).2)).trans (y.out.at' g d).2⟩,y.out.inj⟩
   have d7:=vd (vlen m.vars[i]) (by omega)
   have d4:=run_maxI m.vars[i]
   obtain⟨w3,b0,I,G,O⟩:=(D.map.on (w':=(W.alloc (.cells (ints (List.replicate (vlen m.vars[i]) 0)).toArray 2)).drew) (Below.heap_alloc _ _ _ D.map.lt)).store (t:=105) Tryz.underlying105 (by omega) m.vars[i].name a0 (.slice (some ⟨W.heap.size,0,none⟩) (vlen m.vars[i]) (vlen m.vars[i]))
   have b5:Hid (Laid w3 (w.heap.size+3) (w.heap.size+1) m.vars (i+1) (fun k=>if k=m.vars[i].name then W.heap.size else sl k)):=by
    refine D.add L b2.out (by omega) (by omega) I (fun b Q b9=>(G.block b (by show b<(W.alloc _).heap.size;simp;omega) b9).trans (Below.heap_alloc _ _ _ Q)) ((G.block _ (by show W.heap.size<(W.alloc _).heap.size;simp) (by omega)).trans (zo _ _)) (fun g d e=>?_)
    have:=(D.at' g d).1
    omega
   have b1:Hid (Ext (w.heap.size+1) v w3):=by
    refine(A.out.trans (Ext.below E)).trans (Ext.trans ?_ G)
    exact⟨rfl,rfl,rfl,by show W.heap.size<=(W.alloc _).heap.size;simp,fun b Q _=>Below.heap_alloc _ _ _ Q⟩
   have c6:(vlen m.vars[i]:Int)<=1000:=by omega
   have a5:wr.heap.size<W.heap.size:=by omega
   have b7:w.heap.size+1+1<W.heap.size:=by omega
   rw[b4]at b0
   have d5:(W.alloc (.cells (ints (List.replicate (vlen m.vars[i]) 0)).toArray 2)).cell? ⟨w.heap.size+1+1,5,none⟩=some (.map (some (w.heap.size+1))):=(World.cell?_of_block (w:=W) (Below.heap_alloc _ _ _ b7)).trans l5
   have c8:(W.alloc (.cells (ints (List.replicate (vlen m.vars[i]) 0)).toArray 2)).cell? ⟨wr.heap.size,0,none⟩=some (.string (bs m.vars[i].name)):=(World.cell?_of_block (w:=W) (Below.heap_alloc _ _ _ a5)).trans g0
   have c9:(W.alloc (.cells (ints (List.replicate (vlen m.vars[i]) 0)).toArray 2)).cell? ⟨wr.heap.size,2,none⟩=some (.int .i64 (m.vars[i].len:Int)):=(World.cell?_of_block (w:=W) (Below.heap_alloc _ _ _ a5)).trans g2
   clear C E K S D I G O a4 y A a0 b6
   generalize vlen m.vars[i]=vg at *
   generalize m.vars[i].name=nm at *
   generalize (m.vars[i].pos:Int)=ps at *
   generalize (m.vars[i].len:Int)=ln at *
   generalize m.vars[i].seen=sn at *
   go_upto_region 5 with fail
   rw[<-H]
   clear H c0 c1 c2 c3
   go_region
   go_wp2_with fail
   go_roundg (gn-(i+1))
   case measure=>omega
   case rel=>exact⟨i+1,_,by omega,rfl,by go_num,b5,b1⟩
  ·have a7:¬(i:Int)<(gn:Int):=by omega
   have b8:i=m.vars.length:=by have:=U.out;omega
   have T:Below w.heap.size w wr:=X.out.trans (zX A.out (by omega) (by omega))
   have R:wr.heap[w.heap.size+2]?=some (.cells #[.string (bs m.name),.slice o m.imports.length q,.slice c m.vars.length a,.slice f m.procs.length r,.slice s m.body.length u,.map (some (w.heap.size+1))] 107 (0,0)):=by
    rw[A.out.block _ (by omega) (by omega)]
    exact V.out
   have B:=y.out
   rw[b8]at B
   have HR:Hid (FreshP w m o c f s q a r u (.returned (.pointer (some ⟨w.heap.size+2,0,none⟩))) wr):=by
    refine⟨T,w.heap.size+2,w.heap.size+1,sl,rfl,by omega,by omega,by omega,R,⟨B.map,fun g d=>⟨by have:=(B.at' g d).1;omega,(B.at' g d).2⟩,B.inj⟩,fun g d=>?_⟩
    have:=(B.at' g (by simpa using d)).1
    omega
   clear T R B y A
   go_wp2_with fail
   go_ret
   exact HR.out
theorem Tryz.mapNil (w:World):(binOp .eql 26 (.map none) (.map none)).run Tryz.prog w=.ok (.bool true) w:=by kernel_rfl
theorem Tryz.mapSome (b:Nat)(w:World):(binOp .eql 26 (.map (some b)) (.map none)).run Tryz.prog w=.ok (.bool false) w:=by kernel_rfl
def AddP (w:World) (wb lb:Nat) (nm:Bs) (e:Ending) (w':World):Prop:=e=.returned (.tuple #[])/\Ext wb w w'/\∃tb nv,w'.heap[wb]?=some (.cells #[nv,.map (some tb)] 28 (0,0))/\w.heap.size<=tb/\MapV w' tb 1 (updV (fun _=>none) nm (.pointer (some ⟨lb,0,none⟩)))/\w'.ownsRow 0 9 1 nv 1 [.string (bs nm)]/\∀b,nv.ownBlock=some b->w.heap.size<=b/\b≠tb
theorem add_fin {w w2 d:World}{a i:Nat}{nm:Bs}{c:Value}(n:a<w.heap.size)(k:Ext a w w2)(l:MapV w2 w.heap.size 1 (updV (fun _=>none) nm (.pointer (some ⟨i,0,none⟩))))(o:w2.heap.size=w.heap.size+1)(m:d.heap[a]?=some (.cells #[.slice none 0 0,.map (some w.heap.size)] 28 (0,0)))(h:Below w2.heap.size w2 d)(j:d.ownsRow 0 9 1 c 1 [.string (bs nm)])(f:∀g,c.ownBlock=some g->w2.heap.size<=g):AddP w a i nm (.returned (.tuple #[])) (d.setCell ⟨a,0,none⟩ c):=by
 refine⟨rfl,(k.trans (Ext.below h)).set 0 _,w.heap.size,c,(zu 0 _ m).trans rfl,Nat.le_refl _,l.on ((zx _ (by omega)).trans (h.block _ (by omega))),zH j (fun b _ _ e=>zx b (by have:=f b e;omega)),fun b e=>by have:=f b e;omega⟩
theorem add_first {w:World}{a f:Nat}{nm:Bs}{x D y A E:Value}(l:w.heap[a]?=some (.cells #[.slice none 0 0,.map none] 28 (0,0)))(v:w.heap[f]?=some (.cells #[.string (bs nm),x,D,y,A,E] 107 (0,0)))(V:f≠a)(hn:nm.length<=1000000) :
  Calls Tryz.prog 40 #[.pointer (some ⟨a,0,none⟩),.pointer (some ⟨f,0,none⟩)] w (AddP w a f nm):=by
 obtain⟨i1,hi,U,P,X⟩:=info_parts Tryz.infoString
 have a4:=@run_makeMap Tryz.prog
 have a8:=Tryz.mapNil
 have I:=zf l
 have S:=zf v
 have k1:w.cell? ⟨a,1,none⟩=some (.map none):=(za l).trans rfl
 have hz:w.frozen? ⟨a,1,none⟩=false:=zi l
 obtain⟨c,h⟩:∃c,c=(w.setCell ⟨a,1,none⟩ (.map (some w.heap.size))).alloc (.map #[] 0):=⟨_,rfl⟩
 have o:c.heap[a]?=some (.cells #[.slice none 0 0,.map (some w.heap.size)] 28 (0,0)):=by rw[h];exact(Below.heap_alloc _ _ _ (by simpa using I)).trans ((zu 1 _ l).trans rfl)
 have n:c.heap[f]?=some (.cells #[.string (bs nm),x,D,y,A,E] 107 (0,0)):=by rw[h];exact(Below.heap_alloc _ _ _ (by simpa using S)).trans ((zx _ V).trans v)
 have s:c.heap.size=w.heap.size+1:=by rw[h];simp
 have k:Ext a w c:=by
  rw[h]
  exact((Ext.refl a w).set 1 _).trans (Ext.below (zb _ _))
 have H:MapV c w.heap.size 0 (fun _=>none):=by
  have:=MapV.made (w.setCell ⟨a,1,none⟩ (.map (some w.heap.size)))
  rw[set_size]at this
  rw[h]
  exact this
 obtain⟨w2,O,i,d,m⟩:=(H.on (w':=c.drew) rfl).store (t:=26) Tryz.underlying26 (by omega) nm hn (.pointer (some ⟨f,0,none⟩))
 have p:w2.heap[a]?=some (.cells #[.slice none 0 0,.map (some w.heap.size)] 28 (0,0)):=(d.block a (by show a<c.heap.size;omega) (by omega)).trans o
 have r:w2.heap[f]?=some (.cells #[.string (bs nm),x,D,y,A,E] 107 (0,0)):=(d.block f (by show f<c.heap.size;omega) (by omega)).trans n
 have J:w2.heap.size=w.heap.size+1:=m.trans s
 have G:∀b,b<w.heap.size->b≠a->w2.heap[b]?=w.heap[b]?:=fun b Y h2=>(d.block b (by show b<c.heap.size;omega) (by omega)).trans (k.block b Y h2)
 have R:Hid (Ext a w w2):=⟨d.os.trans k.os,d.tape.trans k.tape,d.output.trans k.output,by omega,G⟩
 have T:=zh i
 have m1:c.cell? ⟨a,1,none⟩=some (.map (some w.heap.size)):=(za o).trans rfl
 have ml:c.cell? ⟨f,0,none⟩=some (.string (bs nm)):=(za n).trans rfl
 have n0:w2.cell? ⟨a,0,none⟩=some (.slice none 0 0):=(za p).trans rfl
 have nl:w2.cell? ⟨f,0,none⟩=some (.string (bs nm)):=(za r).trans rfl
 have a1:a<c.heap.size:=zf o
 have a0:f<c.heap.size:=zf n
 have F:a<w2.heap.size:=zf p
 have L:f<w2.heap.size:=zf r
 have W:=zh p
 have a7:∀ob,(w2.alloc ob).cell? ⟨a,0,none⟩=some (.slice none 0 0):=fun ob=>(World.cell?_of_block (w:=w2) (Below.heap_alloc _ _ _ F)).trans n0
 have a6:∀ob,(w2.alloc ob).cell? ⟨f,0,none⟩=some (.string (bs nm)):=fun ob=>(World.cell?_of_block (w:=w2) (Below.heap_alloc _ _ _ L)).trans nl
 have a5:=zh s
 have Q:=zh J
 clear l v o n s k H i d m p r J G
 go_enter Tryz.func40,Tryz.ntmps40
 go_upto_region 2 with fail
 rw[<-h]
 clear h hz k1
 go_region
 clear m1 ml O
 go_upto_region 3 with fail
 go_region_law (first|(refine zW rfl (.tmp 27) (.tmp 33) 25 rfl 0 9 i1 (.string ⟨#[]⟩) 1 16 Tryz.underlying25 hi U P X rfl (by decide) (.slice none 0 0) 0 [] (by simp[Act.eval]) (World.ownsRow_nil _ _ _ _) ⟨w2.heap.size,0,none⟩ 1 1 [.string (bs nm)] (by simp[Act.eval]) rfl ?news (by intro u K;simp at K;subst K;rfl) (by unfold maxLen;omega) (by omega) (by omega) ?_;(case news=>(intro j u B;rw[Addr.add_lit];cases j with|zero=>(simp at B;subst B;first|exact(za (zo w2 _)).trans rfl|exact(za (zo w2.drew _)).trans rfl)|succ j=>simp at B));intro a2 C i d m;obtain⟨a3,c3,N⟩:=zw i;subst N;have q:C.heap[a]?=some (.cells #[.slice none 0 0,.map (some w.heap.size)] 28 (0,0)):=(d.block a (by simp;omega) (fun e=>by cases e)).trans ((Below.heap_alloc w2 _ a F).trans W.out);have n3:C.cell? ⟨a,0,none⟩=some (.slice none 0 0):=(za q).trans rfl;have z3:C.frozen? ⟨a,0,none⟩=false:=zi q;have M:=zh (add_fin I R.out T.out Q.out q (by first|exact⟨d.os,d.tape,d.output,(by have:=d.size;simp at this;omega),fun b hb=>(d.block b (by simp;omega) (fun e=>by cases e)).trans (Below.heap_alloc w2 _ b hb)⟩) i (fun g Z=>(m g Z).elim (fun z=>(by cases z)) (fun z=>(by simp at z;omega))));clear i d m q))
 all_goals exact bodyPost_end (results_none rfl _ _ _) rfl M.out
def VLo (L:List Lo) (b:Nat):Prop:=∃lo∈L,∃g∈lo.m.vars,b=lo.sl g.name
def thrL (L:List Lo) (k:Bs):Option Value:=(L.find? fun lo=>lo.m.name==k).map fun lo=>.pointer (some ⟨lo.lb,0,none⟩)
def StB (X:Nat->Prop) (L:List Lo) (wb tb:Nat) (nv:Value) (b:Nat):Prop:=¬X b/\¬VLo L b/\b≠wb/\b≠tb/\nv.ownBlock≠some b
structure WW (X:Nat->Prop) (w:World) (wb:Nat) (L:List Lo) (P:List Pt) (nv:Value) (tb:Nat):Prop where
 blk:w.heap[wb]?=some (.cells #[nv,.map (some tb)] 28 (0,0))
 xw:¬X wb/\¬VLo L wb
 nm:w.ownsRow 0 9 1 nv L.length (strs (L.map fun lo=>lo.m.name))
 nx:∀b,nv.ownBlock=some b->¬X b/\b≠wb/\b≠tb/\¬VLo L b
 tx:¬X tb/\tb≠wb/\¬VLo L tb
 th:∃n,n<=100/\MapV w tb n (thrL L)
 lo:∀lo∈L,(∃ia ga pa ba ic gc pc bc,w.heap[lo.lb]?=some (.cells (lcells lo.m ia ga pa ba ic gc pc bc lo.vb) 107 (0,0))/\MD w (StB X L wb tb nv) lo.m ia ga pa ba ic gc pc bc)/\StB X L wb tb nv lo.lb/\StB X L wb tb nv lo.vb/\(∃n,MapV w lo.vb n (loV lo))/\Tp.FitM (L.map fun lo=>lo.m) lo.m
 sv:∀b,VLo L b->b<w.heap.size/\¬X b
 nd:(L.map fun lo=>lo.m.name).Nodup
 inj:∀lo∈L,∀lo'∈L,∀g∈lo.m.vars,∀g'∈lo'.m.vars,lo.sl g.name=lo'.sl g'.name->lo.m.name=lo'.m.name/\g.name=g'.name
 vals:∀lo∈L,∃p,Tp.partOf P lo.m.name=some p/\ValOk w lo p
 mw:Tp.ms P=L.map fun lo=>lo.m
theorem yi (w:World)(a:Option Nat)(fuel:Int):Below w.heap.size w (goesW w a fuel):=((zb _ _).alloc (by simp) _).alloc (by simp;omega) _
theorem yv (w:World)(a:Option Nat)(fuel:Int):(goesW w a fuel).heap.size=w.heap.size+3:=by unfold goesW;simp
theorem goesW_gb (w:World)(a:Option Nat)(fuel:Int):(goesW w a fuel).heap[w.heap.size+1]?=some (.cells #[.map a,.int .i64 fuel,.int .i64 0,.slice none 0 0] 152 (0,0)):=by
 unfold goesW
 rw[Below.heap_alloc _ _ _ (by simp)]
 have:=zo (w.alloc (.cells #[.int .i64 0,.slice none 0 0] 43)) (.cells #[.map a,.int .i64 fuel,.int .i64 0,.slice none 0 0] 152)
 simpa using this
def cxOf (w:World) (tb fuel:Nat) (L:List Lo):Cx:=⟨goesW w (some tb) (fuel:Int),w.heap.size+1,tb,L⟩
theorem WW.cx {X:Nat->Prop}{w:World}{t:Nat}{L:List Lo}{P:List Pt}{u:Value}{a:Nat}(h:WW X w t L P u a)(fuel:Nat)(O:fuel<=800000):CxOk (cxOf w a fuel L)/\GS (cxOf w a fuel L) (goesW w (some a) (fuel:Int)) ⟨P,fuel,[]⟩ 0/\∀b,¬OutB (cxOf w a fuel L) (goesW w (some a) (fuel:Int)) b:=by
 have f:=yi w (some a) (fuel:Int)
 have r:=goesW_gb w (some a) (fuel:Int)
 have s:∀{b:Nat} {o:Obj},w.heap[b]?=some o->b<w.heap.size:=fun q=>zf q
 have k:∀b,StB X L t a u b->b<w.heap.size->(goesW w (some a) (fuel:Int)).heap[b]?=w.heap[b]?/\(cxOf w a fuel L).D b:=fun b K c=>⟨f.block b c,by show b<w.heap.size+1;omega,K.2.1⟩
 have x:a<w.heap.size:=by obtain⟨n,_,i⟩:=h.th;exact i.lt
 have y:CxOk (cxOf w a fuel L):=by
  refine⟨⟨by show a<w.heap.size+1;omega,h.tx.2.2⟩,?_,h.nd,fun lo c=>?_,h.inj⟩
  ·obtain⟨n,_,i⟩:=h.th
   exact⟨n,i.on (f.block _ x)⟩
  ·obtain⟨⟨A,J,S,E,C,z,G,H,d,l⟩,F,N,⟨n,j⟩,R⟩:=h.lo lo c
   exact⟨⟨A,J,S,E,C,z,G,H,(f.block _ (s d)).trans d,l.mono k⟩,(k _ F (s d)).2,(k _ N j.lt).2,⟨n,j.on (f.block _ j.lt)⟩,fun g e=>by
    have:=(h.sv _ ⟨lo,c,g,e,rfl⟩).1
    show _<w.heap.size+1
    omega,R⟩
 refine⟨y,⟨fun b _=>rfl,⟨.slice none 0 0,r,World.ownsRow_nil _ _ _ _⟩,h.mw,fun lo c=>?_,by simp,fun v B=>(by cases B),O,by omega⟩,?_⟩
 ·obtain⟨p,I,M,m⟩:=h.vals lo c
  exact⟨p,I,M,fun g e=>⟨(m g e).1,(f.block _ (h.sv _ ⟨lo,c,g,e,rfl⟩).1).trans (m g e).2.1,(m g e).2.2⟩⟩
 ·rintro b⟨v,d,l⟩
  have Q:(goesW w (some a) (fuel:Int)).cell? ⟨(cxOf w a fuel L).gb,3,none⟩=some (.slice none 0 0):=(za r).trans rfl
  rw[Q]at d
  cases d
  cases l
theorem WW.keep {X:Nat->Prop}{w w':World}{e:Nat}{L:List Lo}{P i:List Pt}{g:Value}{d:Nat}(h:WW X w e L P g d)(f:∀b,b<w.heap.size->¬X b->¬VLo L b->w'.heap[b]?=w.heap[b]?)(x:w.heap.size<=w'.heap.size)(A:∀lo∈L,∃p,Tp.partOf i lo.m.name=some p/\ValOk w' lo p)(a:Tp.ms i=L.map fun lo=>lo.m):WW X w' e L i g d:=by
 have v:=zf h.blk
 have u:d<w.heap.size:=by obtain⟨n,_,a⟩:=h.th;exact a.lt
 have j:∀b,StB X L e d g b->b<w.heap.size->w'.heap[b]?=w.heap[b]?/\StB X L e d g b:=fun b k c=>⟨f b c k.1 k.2.1,k⟩
 refine⟨(f _ v h.xw.1 h.xw.2).trans h.blk,h.xw,zH h.nm (fun b _ c o=>f b c (h.nx b o).1 (h.nx b o).2.2.2),h.nx,h.tx,?_,fun lo c=>?_,fun b t=>⟨Nat.lt_of_lt_of_le (h.sv b t).1 x,(h.sv b t).2⟩,h.nd,h.inj,A,a⟩
 ·obtain⟨n,D,a⟩:=h.th
  exact⟨n,D,a.on (f _ u h.tx.1 h.tx.2.2)⟩
 ·obtain⟨⟨z,G,J,C,B,y,E,F,l,H⟩,q,s,⟨n,r⟩,I⟩:=h.lo lo c
  exact⟨⟨z,G,J,C,B,y,E,F,((j _ q (zf l)).1).trans l,H.mono j⟩,q,s,⟨n,r.on (j _ s r.lt).1⟩,I⟩
theorem WW.after {X:Nat->Prop}{w w2 w':World}{m:Nat}{L:List Lo}{P:List Pt}{o:Value}{a fuel k:Nat}{s:Rs}(h:WW X w m L P o a)(v:fuel<=800000)(l:GS (cxOf w a fuel L) w2 s k)(n:Kp (cxOf w a fuel L) nY (goesW w (some a) (fuel:Int)) w2)(f:Ext w.heap.size w2 w'):WW X w' m L s.w o a/\∀b,b<w.heap.size->¬VLo L b->w'.heap[b]?=w.heap[b]?:=by
 obtain⟨z,y,r⟩:=h.cx fuel v
 have x:=yi w (some a) (fuel:Int)
 have B:=yv w (some a) (fuel:Int)
 have A:=n.size
 have j:∀b,b<w.heap.size->¬VLo L b->w'.heap[b]?=w.heap[b]?:=fun b c i =>
  ((f.block b (by omega) (by omega)).trans (n.block b (by omega) (by show b≠w.heap.size+1;omega) i (r b) (fun q=>q))).trans (x.block b c)
 refine⟨h.keep (fun b c _ i=>j b c i) (by have:=f.size;omega) (fun lo c=>?_) l.mw,j⟩
 obtain⟨p,t,u,e⟩:=l.vals lo c
 exact⟨p,t,u,fun g d=>⟨(e g d).1,(f.block _ (zf (e g d).2.1) (by have:=(h.sv _ ⟨lo,c,g,d,rfl⟩).1;omega)).trans (e g d).2.1,(e g d).2.2⟩⟩
def WayA {α:Type}(c:Cx) (w1:World) (r:Rr α) (way:Int) (w2:World):Prop:=match r with
 | .ok _ s'=>way=1/\∃k,GS c w2 s' k/\Kp c nY w1 w2
 | .stop wy s'=>way=(wy:Int)/\∃k,GS c w2 s' k/\Kp c nY w1 w2
 | .gas=>False
theorem held_of {w w2:World}{a fuel k:Nat}{L:List Lo}{s:Rs}(_:CxOk (cxOf w a fuel L))(c:∀b,¬OutB (cxOf w a fuel L) (goesW w (some a) (fuel:Int)) b)(e:∀b,VLo L b->b<w.heap.size)(h:GS (cxOf w a fuel L) w2 s k)(d:Kp (cxOf w a fuel L) nY (goesW w (some a) (fuel:Int)) w2):GoHeld w (goesW w (some a) (fuel:Int)) w2:=by
 have m:=yv w (some a) (fuel:Int)
 refine⟨d.block _ (by omega) (by show w.heap.size≠w.heap.size+1;omega) (fun q=>by have:=e _ q;omega) (c _) (fun q=>q),d.block _ (by omega) (by show w.heap.size+2≠w.heap.size+1;omega) (fun q=>by have:=e _ q;omega) (c _) (fun q=>q),?_⟩
 obtain⟨l,j,g⟩:=h.outIs
 obtain⟨f,i,rfl⟩:=zw g
 exact⟨f,_,i,j⟩
theorem cf_load (args:Array Value)(w:World):(callFunc 42 args).run Tryz.prog w=.ok (.enter 42 args) w:=by kernel_rfl
theorem cf_call (args:Array Value)(w:World):(callFunc 55 args).run Tryz.prog w=.ok (.enter 55 args) w:=by kernel_rfl
theorem load1_post {X:Nat->Prop}{w:World}{Z:Nat}{L:List Lo}{P:List Pt}{nv:Value}{a fuel o i B E gas:Nat}{D:Option Addr}(h:WW X w Z L P nv a)(Y:fuel<=800000){lo:Lo}(T:lo∈L)(H:w.cell? ⟨o,0,none⟩=some (.pointer (some ⟨lo.lb,0,none⟩)))(C:w.cell? ⟨i,4,none⟩=some (.slice D B E))
  (K:Ss (cxOf w a fuel L) lo [] lo.m.body (.slice D B E))(x:Tp.goS gas 0 lo.m.name (fun _=>none) lo.m.body ⟨P,fuel,[]⟩≠.gas) :
  Calls Tryz.prog 42 #[.pointer (some ⟨w.heap.size+1,0,none⟩),.pointer (some ⟨o,0,none⟩),.pointer (some ⟨i,0,none⟩)] (goesW w (some a) (fuel:Int)) fun e w2=>GoHeld w (goesW w (some a) (fuel:Int)) w2/\((e=.returned (.tuple #[])/\WayA (cxOf w a fuel L) (goesW w (some a) (fuel:Int)) (Tp.goS gas 0 lo.m.name (fun _=>none) lo.m.body ⟨P,fuel,[]⟩) 1 w2)\/∃way:Int,thrE endT way e/\WayA (cxOf w a fuel L) (goesW w (some a) (fuel:Int)) (Tp.goS gas 0 lo.m.name (fun _=>none) lo.m.body ⟨P,fuel,[]⟩) way w2):=by
 obtain⟨y,J,F⟩:=h.cx fuel Y
 have Q:∀b,VLo L b->b<w.heap.size:=fun b u=>(h.sv b u).1
 have u:=yi w (some a) (fuel:Int)
 have V:=yv w (some a) (fuel:Int)
 have N:=zh (fun w2 k s=>held_of (w2:=w2) (k:=k) (s:=s) y F Q)
 have M:(cxOf w a fuel L).gb=w.heap.size+1:=rfl
 have I:(cxOf w a fuel L).L=L:=rfl
 generalize cxOf w a fuel L=c at *
 generalize goesW w (some a) (fuel:Int)=w1 at *
 obtain⟨d,j⟩:∃d,d=w1.alloc (.cells #[.pointer (some ⟨w.heap.size+1,0,none⟩),.pointer (some ⟨lo.lb,0,none⟩),.map none] 98):=⟨_,rfl⟩
 have l:Below w1.heap.size w1 d:=by rw[j];exact zb _ _
 have O:Sc c d w1.heap.size none lo (fun _=>none) [] fuel:=by
  refine⟨by omega,fun q=>?_,by rw[j,M];exact zo _ _,fun _=>rfl,fun k v q=>(by cases q),fun k=>by simp,by rw[I];exact T⟩
  exact F _ ((yr (l.block c.gb (by omega)) _).1 q)
 have R:=zh (run_body y gas 0 lo (fun _=>none) [] lo.m.body (.slice D B E) d ⟨P,fuel,[]⟩ w1.heap.size none K (J.below y l) O x)
 have G:w1.cell? ⟨o,0,none⟩=some (.pointer (some ⟨lo.lb,0,none⟩)):=(u.cell (p:=⟨o,0,none⟩) (zg H)).trans H
 have U:d.cell? ⟨i,4,none⟩=some (.slice D B E):=(l.cell (p:=⟨i,4,none⟩) (by have:=zg C;show i<w1.heap.size;omega)).trans ((u.cell (p:=⟨i,4,none⟩) (zg C)).trans C)
 have a0:o<w1.heap.size:=zg G
 have a1:i<d.heap.size:=zg U
 have S:Hid (Kp c nY w1 d):=Kp.below l (by omega)
 clear h y J F Q u V K O H C l
 generalize Tp.goS gas 0 lo.m.name (fun _=>none) lo.m.body ⟨P,fuel,[]⟩=r at *
 have A:Hid (∀W,Kp c (oY none) d W->Kp c nY w1 W):=fun W q=>S.out.trans (q.mono fun b z=>by cases z)
 clear M I
 cases r with
 |gas=>exact absurd rfl x
 |stop way s' =>
  clear x
  go_enter Tryz.func42,Tryz.ntmps42
  go_upto_region 1 with fail
  rw[<-j]
  clear j G
  go_wp2_with fail
  refine R.out.mono ?_
  rintro e n⟨⟨older,rfl⟩,⟨k',g⟩,f⟩
  have t:Hid (GoHeld w w1 n/\WayA c w1 (.stop way s':Rr (Own×Option Int)) (way:Int) n):=⟨N.out _ _ _ g (A.out _ f),rfl,k',g,A.out _ f⟩
  clear g f
  go_wp2_with fail
  exact⟨rfl,t.out.1,Or.inr ⟨(way:Int),⟨older,rfl⟩,t.out.2⟩⟩
 |ok r1 s' =>
  clear x
  go_enter Tryz.func42,Tryz.ntmps42
  go_upto_region 1 with fail
  rw[<-j]
  clear j G
  go_wp2_with fail
  refine R.out.mono ?_
  rintro e n⟨rfl,g,f,_,_⟩
  have t:Hid (GoHeld w w1 n/\WayA c w1 (.ok r1 s') 1 n):=⟨N.out _ _ _ g (A.out _ f),rfl,0,g,A.out _ f⟩
  clear g f
  go_wp2_with fail
  exact bodyPost_end (results_none rfl _ _ _) rfl ⟨t.out.1,Or.inl ⟨rfl,t.out.2⟩⟩
theorem xu {m:Tp.M}{g:G}(a:(m.vars.map (·.name)).Nodup)(b:g∈m.vars):Tp.fresh m g.name=List.replicate (vlen g) 0:=by
 have:m.vars.find? (fun x=>x.name==g.name)=some g:=Tp.varOf_mem a b
 unfold Tp.fresh vlen
 rw[this]
theorem WW.less {X Y:Nat->Prop}{w:World}{e:Nat}{L:List Lo}{P:List Pt}{f:Value}{d:Nat}(h:WW X w e L P f d)(c:∀b,Y b->X b):WW Y w e L P f d:=by
 have g:∀b,StB X L e d f b->StB Y L e d f b:=fun b q=>⟨fun z=>q.1 (c b z),q.2⟩
 refine⟨h.blk,⟨fun z=>h.xw.1 (c _ z),h.xw.2⟩,h.nm,fun b a=>⟨fun z=>(h.nx b a).1 (c _ z),(h.nx b a).2⟩,⟨fun z=>h.tx.1 (c _ z),h.tx.2⟩,h.th,fun lo j=>?_,fun b a=>⟨(h.sv b a).1,fun z=>(h.sv b a).2 (c _ z)⟩,h.nd,h.inj,h.vals,h.mw⟩
 obtain⟨⟨l,t,y,n,m,i,r,s,k,v⟩,o,u,p,x⟩:=h.lo lo j
 exact⟨⟨l,t,y,n,m,i,r,s,k,v.mono (fun b a _=>⟨rfl,g b a⟩)⟩,g _ o,g _ u,p,x⟩
theorem uM {w:World}{d:Nat}{v:Value}{l:List Int}(h:w.ownsRow d 2 1 v l.length (ints l)):∃oa oc,v=.slice oa l.length oc/\IntsAt w l oa/\(∀a,oa=some a->d<=a.block)/\l.length<=oc:=by
 rcases h.2 with⟨c,j⟩|⟨g,cap,cur,c,hb,hg,h4,h5,h6,h7⟩
 ·exact⟨none,0,by rw[c,j],⟨fun i b=>by omega⟩,fun a e=>(by cases e),by omega⟩
 ·refine⟨_,_,c,⟨fun i b=>⟨g,0,rfl,zf hg,?_⟩⟩,fun a e=>(by cases e;exact hb),h4⟩
  rw[Nat.zero_add,za hg]
  have f:(ints l)[i]?=some (.int .i64 l[i]):=by unfold ints;simp[b]
  rw[<-h7,Nat.mul_one,List.getElem?_take_of_lt b]at f
  simpa using f
structure GonP (X:Nat->Prop) (w:World) (wb:Nat) (L:List Lo) (nv:Value) (tb:Nat) (P':List Pt) (out:List Int) (oa:Option Addr) (w':World):Prop where
 ww:WW X w' wb L P' nv tb
 keep:∀b,b<w.heap.size->¬VLo L b->w'.heap[b]?=w.heap[b]?
 it:IntsAt w' out oa
 oi:∀v∈out,Tp.I64 v
 ol:out.length<=200
 far:∀a,oa=some a->w.heap.size<=a.block
 size:w.heap.size<=w'.heap.size
 os:w'.os=w.os
 tape:w'.tape=w.tape
 output:w'.output=w.output
theorem gone {α:Type}{X:Nat->Prop}{w w':World}{o:Nat}{L:List Lo}{P:List Pt}{p:Value}{c fuel:Nat}{r:Rr α}{e:Ending}(h:WW X w o L P p c)(M:fuel<=800000)(G:GoesP w (WayA (cxOf w c fuel L) (goesW w (some c) (fuel:Int)) r) e w') :
  ∃g j,e=.returned (.agg #[.int .i64 ((Tp.endOf r).2.way:Int),.slice g (Tp.endOf r).2.out.length j])/\(Tp.endOf r).2.out.length<=j/\GonP X w o L p c (Tp.endOf r).1 (Tp.endOf r).2.out g w':=by
 obtain⟨w2,Q,g,J,j,m,N,v,i⟩:=G
 have u:∀(s:Rs) (k:Nat),GS (cxOf w c fuel L) w2 s k->Kp (cxOf w c fuel L) nY (goesW w (some c) (fuel:Int)) w2->J=s.out.length/\s.out.length<=j/\GonP X w o L p c s.w s.out g w':=by
  intro s k f d
  have l:=yi w (some c) (fuel:Int)
  have S:=l.size
  obtain⟨A,B⟩:=h.after M f d i
  obtain⟨F,E,y⟩:=f.outIs
  have t:w2.cell? ⟨w.heap.size+1,3,none⟩=some F:=E
  rw[N]at t
  have H:=(Option.some.inj t).symm
  rw[H]at y
  have z:=zH (w':=w') y (fun b l D _=>i.block b D (by have:w.heap.size+1+1<=b:=l;omega))
  obtain⟨R,O,n,I,C,K⟩:=uM z
  injection n with n e4 e5
  subst n
  exact⟨e4,by rw[e5];exact K,A,B,I,f.oi,f.ol,fun a q=>by have:w.heap.size+1+1<=a.block:=C a q;omega,by have:=d.size;have:=i.size;omega,(i.os.trans d.os).trans l.os,(i.tape.trans d.tape).trans l.tape,(i.output.trans d.output).trans l.output⟩
 cases r with
 |gas=>exact m.elim
 |ok x s=>obtain⟨rfl,k,f,d⟩:=m;obtain⟨rfl,q⟩:=u s k f d;exact⟨g,j,v,q⟩
 |stop wy s=>obtain⟨rfl,k,f,d⟩:=m;obtain⟨rfl,q⟩:=u s k f d;exact⟨g,j,v,q⟩
theorem ss_body {Y:Nat->Prop}{w:World}{v d fuel:Nat}{L:List Lo}{P:List Pt}{x:Value}{lo:Lo}{n s y e:Option Addr}{o k r f:Nat}(h:WW Y w v L P x d)(t:fuel<=800000)(j:lo∈L)(g:w.heap[lo.lb]?=some (.cells (lcells lo.m n s y e o k r f lo.vb) 107 (0,0))):Ss (cxOf w d fuel L) lo [] lo.m.body (.slice e lo.m.body.length f):=by
 have c:=(h.cx fuel t).1.lo lo j
 obtain⟨F,D,z,G,A,C,B,E,l,u⟩:=c.blk
 have q:=((yi w (some d) (fuel:Int)).block lo.lb (zf g)).trans g
 have a:=l.symm.trans q
 unfold lcells at a
 simp only[Option.some.injEq,Obj.cells.injEq,Array.mk.injEq,List.cons.injEq,Value.slice.injEq]at a
 obtain⟨i,p,b2⟩:=u.bd
 refine⟨⟨i,p,?_⟩,c.fit.wm.b,c.fit.bd⟩
 rw[<-a.1.2.2.2.2.1.1,<-a.1.2.2.2.2.1.2.2]
 exact b2
def ErrV (B:Nat) (w':World) (er:Nat×Option Nat) (v:Value):Prop:=match er.2 with
 |none=>v=.iface 44 (.int .i64 (er.1:Int))
 |some pl=>∃ab,v=.iface 117 (.pointer (some ⟨ab,0,none⟩))/\B<=ab/\w'.cell? ⟨ab,0,none⟩=some (.int .i64 (er.1:Int))/\w'.cell? ⟨ab,1,none⟩=some (.int .i64 (pl:Int))
def no2:Value:=.agg #[.int .i64 0,.slice none 0 0]
end Go.Proofs.YtibncofnnlbmcaaGreatDoor
namespace Go.Proofs.YtibncofnnlbmcaaGreatDoor
open Go.RowKit
theorem Tryz.eqNilI (w:World):(binOp .eql 29 (.slice none 0 0) (.slice none 0 0)).run Tryz.prog w=.ok (.bool true) w:=by kernel_rfl
theorem Tryz.eqSomeI (w:World)(a:Addr)(n c:Nat):(binOp .eql 29 (.slice (some a) n c) (.slice none 0 0)).run Tryz.prog w=.ok (.bool false) w:=by kernel_rfl
theorem cloneI {w:World}{D:Nat->Prop}{v:Value}{n:Nat}{cs:List Value}(h:Row w D 2 1 v n cs)(a:cs.length=n*1)(i:∀u∈cs,u.oneCell'=true)(L:n<=1000) :
  Calls Tryz.prog 52 #[v] w fun e w'=>∃v',e=.returned v'/\Below w.heap.size w w'/\w'.ownsRow w.heap.size 2 1 v' n cs:=by
 have J:=Tryz.eqNilI
 have K:=Tryz.eqSomeI
 obtain⟨C,G,y,x,B⟩:=info_parts Tryz.infoInt64
 rcases h with⟨rfl,rfl,rfl⟩|⟨g,cap,cur,rfl,hD,hb,hcap,hmx,hsz,htk⟩
 ·go_enter Tryz.func52,Tryz.ntmps52
  go_wp2_with fail
  go_ret
  exact⟨_,rfl,Below.refl _ _,World.ownsRow_nil _ _ _ _⟩
 ·have f:Below w.heap.size w (w.alloc (.cells #[] 2)):=zb _ _
  have c:(w.alloc (.cells #[] 2)).ownsRow w.heap.size 2 1 (.slice (some ⟨w.heap.size,0,none⟩) 0 0) 0 [] :=
   ⟨rfl,Or.inr ⟨w.heap.size,0,#[],rfl,Nat.le_refl _,zo _ _,Nat.le_refl _,by unfold maxLen;omega,rfl,rfl⟩⟩
  have d:(w.alloc (.cells #[] 2)).heap[g]?=some (.cells cur 2 (0,0)):=(Below.heap_alloc _ _ _ (zf hb)).trans hb
  have b:∀j u,cs[j]?=some u->(w.alloc (.cells #[] 2)).cell? ((⟨g,0,none⟩:Addr).add j)=some u:=by
   intro j u m
   have t:j<n*1:=by rw[<-a];exact(List.getElem?_eq_some_iff.1 m).1
   rw[Addr.add_lit,za d,Nat.zero_add,<-Array.getElem?_toList,<-m,<-htk,List.getElem?_take_of_lt t]
  have q:=zh c
  have r:=zh f
  have s:=zh b
  have H:=zh a
  have F:=zh i
  clear c f d hb b a i hsz htk
  go_enter Tryz.func52,Tryz.ntmps52
  go_wp2_with (at_builtin;refine zG _ rfl _ _ 29 rfl w.heap.size 2 C (.int .i64 0) 1 8 Tryz.underlying29 G y x B rfl (by decide) _ 0 [] rfl q.out ⟨g,0,none⟩ n cap cs rfl H.out s.out F.out (by unfold maxLen;omega) (by omega) (by simp) ?_)
  intro E o l p _
  have z:Hid (Below w.heap.size w o):=r.out.trans ((Below.refl w.heap.size _).grown p (by simp) (fun k I=>(q.out.lt k I).1))
  have A:Hid (o.ownsRow w.heap.size 2 1 E n cs):=by unfold Hid;simpa using l
  clear l p
  go_wp2_with fail
  go_ret
  exact⟨_,rfl,z.out,A.out⟩
theorem Tryz.eqNilT (w:World):(binOp .eql 25 (.slice none 0 0) (.slice none 0 0)).run Tryz.prog w=.ok (.bool true) w:=by kernel_rfl
theorem Tryz.eqSomeT (w:World)(a:Addr)(n c:Nat):(binOp .eql 25 (.slice (some a) n c) (.slice none 0 0)).run Tryz.prog w=.ok (.bool false) w:=by kernel_rfl
theorem cloneT {w:World}{D:Nat->Prop}{v:Value}{n:Nat}{cs:List Value}(h:Row w D 9 1 v n cs)(a:cs.length=n*1)(i:∀u∈cs,u.oneCell'=true)(L:n<=1000) :
  Calls Tryz.prog 76 #[v] w fun e w'=>∃v',e=.returned v'/\Below w.heap.size w w'/\w'.ownsRow w.heap.size 9 1 v' n cs:=by
 have J:=Tryz.eqNilT
 have K:=Tryz.eqSomeT
 obtain⟨C,G,y,x,B⟩:=info_parts Tryz.infoString
 rcases h with⟨rfl,rfl,rfl⟩|⟨g,cap,cur,rfl,hD,hb,hcap,hmx,hsz,htk⟩
 ·go_enter Tryz.func76,Tryz.ntmps76
  go_wp2_with fail
  go_ret
  exact⟨_,rfl,Below.refl _ _,World.ownsRow_nil _ _ _ _⟩
 ·have f:Below w.heap.size w (w.alloc (.cells #[] 9)):=zb _ _
  have c:(w.alloc (.cells #[] 9)).ownsRow w.heap.size 9 1 (.slice (some ⟨w.heap.size,0,none⟩) 0 0) 0 [] :=
   ⟨rfl,Or.inr ⟨w.heap.size,0,#[],rfl,Nat.le_refl _,zo _ _,Nat.le_refl _,by unfold maxLen;omega,rfl,rfl⟩⟩
  have d:(w.alloc (.cells #[] 9)).heap[g]?=some (.cells cur 9 (0,0)):=(Below.heap_alloc _ _ _ (zf hb)).trans hb
  have b:∀j u,cs[j]?=some u->(w.alloc (.cells #[] 9)).cell? ((⟨g,0,none⟩:Addr).add j)=some u:=by
   intro j u m
   have t:j<n*1:=by rw[<-a];exact(List.getElem?_eq_some_iff.1 m).1
   rw[Addr.add_lit,za d,Nat.zero_add,<-Array.getElem?_toList,<-m,<-htk,List.getElem?_take_of_lt t]
  have q:=zh c
  have r:=zh f
  have s:=zh b
  have H:=zh a
  have F:=zh i
  clear c f d hb b a i hsz htk
  go_enter Tryz.func76,Tryz.ntmps76
  go_wp2_with (at_builtin;refine zG _ rfl _ _ 25 rfl w.heap.size 9 C (.string ⟨#[]⟩) 1 16 Tryz.underlying25 G y x B rfl (by decide) _ 0 [] rfl q.out ⟨g,0,none⟩ n cap cs rfl H.out s.out F.out (by unfold maxLen;omega) (by omega) (by simp) ?_)
  intro E o l p _
  have z:Hid (Below w.heap.size w o):=r.out.trans ((Below.refl w.heap.size _).grown p (by simp) (fun k I=>(q.out.lt k I).1))
  have A:Hid (o.ownsRow w.heap.size 9 1 E n cs):=by unfold Hid;simpa using l
  clear l p
  go_wp2_with fail
  go_ret
  exact⟨_,rfl,z.out,A.out⟩
end Go.Proofs.YtibncofnnlbmcaaGreatDoor
namespace Go.Proofs.YtibncofnnlbmcaaGreatDoor
open Go.RowKit Go.Maps
open Tp (Bs X S G Pr Pt Rs Rr Own)
theorem vF {w:World}{f:Nat}{h v:Value}{ns:List Bs}(i:w.heap[f]?=some (.cells #[h,v] 28 (0,0)))(c:w.ownsRow 0 9 1 h ns.length (strs ns))(m:ns.length<=1000) :
  Calls Tryz.prog 34 #[.pointer (some ⟨f,0,none⟩)] w fun e w'=>∃d,e=.returned d/\Below w.heap.size w w'/\w'.ownsRow w.heap.size 9 1 d ns.length (strs ns):=by
 have p:Row w (fun _=>True) 9 1 h ns.length (strs ns):=by
  rcases c.2 with⟨a,y⟩|⟨g,cap,cur,a,_,h3,h4,h5,h6,h7⟩
  ·have:ns=[]:=List.length_eq_zero_iff.1 y
   subst this
   exact Or.inl ⟨a,rfl,rfl⟩
  ·exact Or.inr ⟨g,cap,cur,a,trivial,h3,h4,h5,h6,h7⟩
 have o:=zh (cloneT p (by simp[strs]) (fun u q=>by simp[strs]at q;obtain⟨b,_,rfl⟩:=q;rfl) m)
 obtain⟨x,cap,rfl⟩:=zw c
 have t:w.cell? ⟨f,0,none⟩=some (.slice x ns.length cap):=(za i).trans rfl
 have z:=zf i
 obtain⟨n,l⟩:∃n,n=ns.length:=⟨_,rfl⟩
 rw[<-l]at o t ⊢
 clear i c m p l
 go_enter Tryz.func34,Tryz.ntmps34
 go_wp2_with fail
 refine o.out.mono ?_
 rintro e A⟨d,rfl,k,j⟩
 have s:=zh k
 have r:=zh j
 clear k j
 go_wp2_with fail
 go_ret
 exact⟨_,rfl,s.out,r.out⟩
def GetP (w:World) (r:Option (List Int)) (e:Ending) (w':World):Prop:=Below w.heap.size w w'/\match r with
 |some xs=>∃oa oc,e=.returned (.tuple #[.slice oa xs.length oc,.nilIface])/\IntsAt w' xs oa
 |none=>e=.returned (.tuple #[.slice none 0 0,.iface 44 (.int .i64 7)])
theorem WW.lookT {X:Nat->Prop}{w:World}{e:Nat}{L:List Lo}{P:List Pt}{f:Value}{a:Nat}(h:WW X w e L P f a){lo:Lo}(c:lo∈L)(b:lo.m.name.length<=1000000):(Instr.lookup 26 (.map (some a)) (.string (bs lo.m.name)) false).run Tryz.prog w=.ok (.pointer (some ⟨lo.lb,0,none⟩)) w:=by
 obtain⟨n,_,d⟩:=h.th
 rw[d.look (t:=26) Tryz.underlying26 (zeroLo _) lo.m.name b false]
 have:thrL L lo.m.name=some (.pointer (some ⟨lo.lb,0,none⟩)):=by
  unfold thrL
  rw[(Tp.find_key (key:=fun lo:Lo=>lo.m.name) h.nd lo).2 ⟨c,rfl⟩]
  rfl
 simp[this]
theorem get_in {X:Nat->Prop}{w:World}{F:Nat}{L:List Lo}{P:List Pt}{nv:Value}{U:Nat}(h:WW X w F L P nv U){lo:Lo}(f:lo∈L)(nm:Bs)(Z:nm.length<=1000000) :
  Calls Tryz.prog 23 #[.pointer (some ⟨F,0,none⟩),.string (bs lo.m.name),.string (bs nm)] w (GetP w (Tp.getW P lo.m.name nm)):=by
 have a5:=Tryz.eqNilI
 have a6:=Tryz.eqSomeI
 obtain⟨⟨ia,ga,pa,ba,ic,gc,pc,bc,v,S⟩,_,_,⟨n,C⟩,o⟩:=h.lo lo f
 have a1:lo.m.name.length<=1000000:=by have:=zQ o.wm.n;omega
 have a3:=h.lookT f a1
 have k1:w.cell? ⟨F,1,none⟩=some (.map (some U)):=(za h.blk).trans rfl
 have a2:=zf h.blk
 have k5:w.cell? ⟨lo.lb,5,none⟩=some (.map (some lo.vb)):=(za v).trans rfl
 have a4:=zf v
 have r:=C.look (t:=105) Tryz.underlying105 (zeroI64s _) nm Z false
 obtain⟨p,z,A,D⟩:=h.vals lo f
 cases a:Tp.varOf lo.m nm with
 |none =>
  have i:Tp.getW P lo.m.name nm=none:=by
   unfold Tp.getW
   rw[z,Option.bind_some,A,if_neg]
   intro q
   obtain⟨g,g1,g2⟩:=List.any_eq_true.1 q
   exact absurd g2 (by simpa using List.find?_eq_none.1 a g g1)
  have G:(Instr.lookup 105 (.map (some lo.vb)) (.string (bs nm)) false).run Tryz.prog w=.ok (.slice none 0 0) w:=by rw[r];simp[loV,a]
  rw[i]
  clear h f v S C o r z A D a i
  generalize bs nm=x at *
  generalize bs lo.m.name=y at *
  go_enter Tryz.func23,Tryz.ntmps23
  go_wp2_with fail
  go_ret2
  exact⟨Below.refl _ _,rfl⟩
 |some g =>
  have s:g∈lo.m.vars:=List.mem_of_find?_eq_some a
  have B:g.name=nm:=by simpa using List.find?_some a
  have i:Tp.getW P lo.m.name nm=some (p.vars nm):=by
   unfold Tp.getW
   rw[z,Option.bind_some,A,if_pos]
   exact List.any_eq_true.2 ⟨g,s,by simpa using B⟩
  obtain⟨d,E,O⟩:=D g s
  rw[B]at d E O
  have G:(Instr.lookup 105 (.map (some lo.vb)) (.string (bs nm)) false).run Tryz.prog w=.ok (.slice (some ⟨lo.sl nm,0,none⟩) (vlen g) (vlen g)) w:=by rw[r];simp[loV,a]
  have I:vlen g<=1000:=by have:=(o.wm.g g s).l;unfold vlen;split<;>omega
  have R:Row w (fun _=>True) 2 1 (.slice (some ⟨lo.sl nm,0,none⟩) (vlen g) (vlen g)) (vlen g) (ints (p.vars nm)):=Or.inr ⟨lo.sl nm,vlen g,_,rfl,trivial,E,Nat.le_refl _,by unfold maxLen;omega,by simp[ints,d],List.take_of_length_le (by simp[ints,d])⟩
  have W:=zh (cloneI R (by simp[ints,d]) (fun u V=>by simp[ints]at V;obtain⟨b,_,rfl⟩:=V;rfl) I)
  have J:Hid (∀w' k,w'.ownsRow w.heap.size 2 1 k (vlen g) (ints (p.vars nm))->∃c j,k=.slice c (p.vars nm).length j/\IntsAt w' (p.vars nm) c):=fun w' k T=>by
   rw[<-d]at T
   obtain⟨c,j,e1,e2,_⟩:=uM T
   exact⟨c,j,e1,e2⟩
  rw[i]
  obtain⟨Q,N⟩:∃Q,Q=vlen g:=⟨_,rfl⟩
  rw[<-N]at G W J
  clear h f v S C o r z A D a i d E O s B R N I
  generalize bs nm=x at *
  generalize bs lo.m.name=y at *
  go_enter Tryz.func23,Tryz.ntmps23
  go_wp2_with fail
  refine W.out.mono ?_
  rintro e w1⟨k,rfl,K,H⟩
  obtain⟨c,j,rfl,M⟩:=J.out w1 k H
  have Y:=zh K
  have a0:=zh M
  clear K H M
  go_wp2_with fail
  go_ret2
  exact⟨Y.out,c,j,rfl,a0.out⟩
end Go.Proofs.YtibncofnnlbmcaaGreatDoor
