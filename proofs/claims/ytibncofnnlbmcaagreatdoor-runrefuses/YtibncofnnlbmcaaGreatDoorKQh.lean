import Derived.Test.YtibncofnnlbmcaaGreatDoorKQg
import Derived.Test.YtibncofnnlbmcaaGreatDoorKUa
import Derived.Test.YtibncofnnlbmcaaGreatDoorKMf
set_option maxRecDepth 100000
set_option maxHeartbeats 4000000
namespace Go.Proofs.YtibncofnnlbmcaaGreatDoor
open Go.RowKit Go.Maps
open Tp (Bs X S G Pr Pt Rs Rr Own)
theorem run_maxI (g:G) (w:World):(Builtin.max_ #[3,3] 3 #[.int .i64 (g.len:Int),.int .i64 1]).run Tryz.prog w=.ok (.int .i64 (vlen g:Int)) w:=by
 have e:(Builtin.max_ #[3,3] 3 #[.int .i64 (g.len:Int),.int .i64 1]).run Tryz.prog w=.ok (.int .i64 (if (1:Int) > (g.len:Int) then 1 else (g.len:Int))) w:=rfl
 rw[e]
 congr 2
 unfold vlen
 by_cases h:g.len=0
 ·rw[if_pos (by omega),if_pos h];rfl
 ·rw[if_neg (by omega),if_neg h]
def FreshP (w:World) (m:Tp.M) (ia ga pa ba:Option Addr) (ic gc pc bc:Nat) (e:Ending) (w':World):Prop:=Below w.heap.size w w'/\∃ lb vb sl,e=.returned (.pointer (some ⟨lb,0,none⟩))/\w.heap.size<=lb/\w.heap.size<=vb/\lb≠vb/\w'.heap[lb]?=some (.cells (lcells m ia ga pa ba ic gc pc bc vb) 107 (0,0))/\Laid w' w.heap.size vb m.vars m.vars.length sl/\∀ g∈m.vars,sl g.name≠lb/\sl g.name≠vb
theorem xv {w:World}{m:Tp.M}{ia ga pa ba:Option Addr}{ic gc pc bc:Nat}(h:MB w w.heap.size m ia ga pa ba ic gc pc bc) (hm:Tp.WM m) (hn:(m.vars.map (·.name)).Nodup) :
  Calls Tryz.prog 39 #[.agg (mcells (bs m.name) (.slice ia m.imports.length ic) (.slice ga m.vars.length gc) (.slice pa m.procs.length pc) (.slice ba m.body.length bc))] w (FreshP w m ia ga pa ba ic gc pc bc):=by
 have hmm:=@run_makeMap Tryz.prog
 obtain⟨w0,hw0⟩:∃ w0,w0=((w.alloc (.cells (mcells (bs m.name) (.slice ia m.imports.length ic) (.slice ga m.vars.length gc) (.slice pa m.procs.length pc) (.slice ba m.body.length bc)) 36)).alloc (.map #[] 0)).alloc (.cells (lcells m ia ga pa ba ic gc pc bc (w.heap.size+1)) 107):=⟨_,rfl⟩
 have hb0:Below w.heap.size w w0:=by rw[hw0];exact((zb _ _).alloc (by simp) _).alloc (by simp;omega) _
 have hs0:w0.heap.size=w.heap.size+3:=by rw[hw0];simp
 have hk0:w0.heap[w.heap.size]?=some (.cells (mcells (bs m.name) (.slice ia m.imports.length ic) (.slice ga m.vars.length gc) (.slice pa m.procs.length pc) (.slice ba m.body.length bc)) 36 (0,0)):=by
  rw[hw0];exact((Below.heap_alloc _ _ _ (by simp;omega)).trans (Below.heap_alloc _ _ _ (by simp))).trans (zo _ _)
 have hm0:MapV w0 (w.heap.size+1) 0 (fun _=>none):=by
  have h1:=MapV.made (w.alloc (.cells (mcells (bs m.name) (.slice ia m.imports.length ic) (.slice ga m.vars.length gc) (.slice pa m.procs.length pc) (.slice ba m.body.length bc)) 36))
  have h2:(w.alloc (.cells (mcells (bs m.name) (.slice ia m.imports.length ic) (.slice ga m.vars.length gc) (.slice pa m.procs.length pc) (.slice ba m.body.length bc)) 36)).heap.size=w.heap.size+1:=by simp
  rw[h2]at h1
  refine h1.on ?_
  rw[hw0]
  exact Below.heap_alloc _ _ _ (by simp)
 have hk2:w0.heap[w.heap.size+2]?=some (.cells (lcells m ia ga pa ba ic gc pc bc (w.heap.size+1)) 107 (0,0)):=by
  have:=zo ((w.alloc (.cells (mcells (bs m.name) (.slice ia m.imports.length ic) (.slice ga m.vars.length gc) (.slice pa m.procs.length pc) (.slice ba m.body.length bc)) 36)).alloc (.map #[] 0)) (.cells (lcells m ia ga pa ba ic gc pc bc (w.heap.size+1)) 107)
  rw[hw0]
  simpa using this
 have hl0:Laid w0 (w.heap.size+3) (w.heap.size+1) m.vars 0 (fun _=>0):=⟨by simpa using hm0,fun g hg=>by simp at hg,fun g hg=>by simp at hg⟩
 have hgl:=h.gl
 have HG:Hid (∀ i,∀ hi:i<m.vars.length,∃ gg,ga=some ⟨gg,0,none⟩/\gg<w.heap.size/\∀ j,j<4->w.cell? ⟨gg,i * 4+j,none⟩=(gcells (bs m.vars[i].name) (m.vars[i].pos:Int) (m.vars[i].len:Int) m.vars[i].seen).toList[j]?):=by
  intro i hi
  obtain⟨g,cap,q1,q2,q3,q4⟩:=yt hgl (by omega)
  cases q1
  exact⟨g,rfl,q3,fun j hj=>(q4 (i * 4+j) (by omega)).trans (xK m.vars i hi j hj)⟩
 have HW:Hid (∀ i,∀ hi:i<m.vars.length,m.vars[i].name.length<=1000000/\vlen m.vars[i]<=1000):=fun i hi=>by
  have:=hm.g _ (List.getElem_mem hi)
  refine⟨zQ this.n,?_⟩
  have:=this.l
  unfold vlen
  split <;> omega
 have HND:=zh hn
 have k2:w0.cell? ⟨w.heap.size,2,none⟩=some (.slice ga m.vars.length gc):=(za hk0).trans rfl
 have hgn:m.vars.length<=10:=hm.gc
 have HB0:=zh hb0
 have HK2:=zh hk2
 have HL0:=zh hl0
 clear hb0 hk0 hm0 hk2 hl0 hgl h hm hn
 obtain⟨gn,hgn'⟩:∃ gn,gn=m.vars.length:=⟨_,rfl⟩
 have HGN:=zh hgn'
 unfold mcells lcells at *
 rw[<-hgn']at k2 hgn hw0 ⊢
 clear hgn'
 have hgI:(gn:Int)<=10:=by omega
 have hws:w.heap.size<w0.heap.size:=by omega
 go_enter Tryz.func39,Tryz.ntmps39
 go_upto_region 2 with fail
 rw[<-hw0]
 clear hw0
 go_wp2_with fail
 go_loopg [13] gn (fun k vi wr=>∃(i:Nat) (sl:Bs->Nat),i<=gn/\k=gn - i/\vi=.int .i64 (i:Int)/\Hid (Laid wr (w.heap.size+3) (w.heap.size+1) m.vars i sl)/\Hid (Ext (w.heap.size+1) w0 wr))
 case atStart=>exact⟨0,fun _=>0,by omega,by omega,rfl,HL0,Ext.refl _ _⟩
 case round =>
  obtain⟨i,sl,hid,hk,rfl,HL,HE⟩:=hrel
  have hszr:=HE.out.size
  by_cases hlt:i<gn
  ·have hlt':(i:Int)<(gn:Int):=by omega
   have hia:i<m.vars.length:=by have:=HGN.out;omega
   obtain⟨gg,rfl,hggl,hgc⟩:=HG.out i hia
   have hcell:∀ j,j<4->wr.cell? ⟨gg,i * 4+j,none⟩=(gcells (bs m.vars[i].name) (m.vars[i].pos:Int) (m.vars[i].len:Int) m.vars[i].seen).toList[j]?:=fun j hj=>by
    rw[World.cell?_of_block (w:=w0) (HE.out.block gg (by omega) (by omega)),HB0.out.cell (p:=⟨gg,i * 4+j,none⟩) hggl]
    exact hgc j hj
   have c0:wr.cell? ⟨gg,i * 4,none⟩=some (.string (bs m.vars[i].name)):=hcell 0 (by omega)
   have c1:wr.cell? ⟨gg,i * 4+1,none⟩=some (.int .i64 (m.vars[i].pos:Int)):=hcell 1 (by omega)
   have c2:wr.cell? ⟨gg,i * 4+2,none⟩=some (.int .i64 (m.vars[i].len:Int)):=hcell 2 (by omega)
   have c3:wr.cell? ⟨gg,i * 4+3,none⟩=some (.bool m.vars[i].seen):=hcell 3 (by omega)
   have hggr:gg<wr.heap.size:=by omega
   obtain⟨hnl,hvl⟩:=HW.out i hia
   obtain⟨W,hW⟩:∃ W,W=wr.alloc (.cells #[.string (bs m.vars[i].name),.int .i64 (m.vars[i].pos:Int),.int .i64 (m.vars[i].len:Int),.bool m.vars[i].seen] 61):=⟨_,rfl⟩
   have hbW:Below wr.heap.size wr W:=by rw[hW];exact zb _ _
   have hsW:W.heap.size=wr.heap.size+1:=by rw[hW];simp
   have hkW:W.heap[wr.heap.size]?=some (.cells #[.string (bs m.vars[i].name),.int .i64 (m.vars[i].pos:Int),.int .i64 (m.vars[i].len:Int),.bool m.vars[i].seen] 61 (0,0)):=by rw[hW];exact zo _ _
   have g0:W.cell? ⟨wr.heap.size,0,none⟩=some (.string (bs m.vars[i].name)):=(za hkW).trans rfl
   have g2:W.cell? ⟨wr.heap.size,2,none⟩=some (.int .i64 (m.vars[i].len:Int)):=(za hkW).trans rfl
   have hlbW:W.heap[w.heap.size+2]?=some (.cells #[.string (bs m.name),.slice ia m.imports.length ic,.slice (some ⟨gg,0,none⟩) m.vars.length gc,.slice pa m.procs.length pc,.slice ba m.body.length bc,.map (some (w.heap.size+1))] 107 (0,0)):=by
    rw[hbW.block _ (by omega),HE.out.block _ (by omega) (by omega)]
    exact HK2.out
   have l5:W.cell? ⟨w.heap.size+1+1,5,none⟩=some (.map (some (w.heap.size+1))):=(za hlbW).trans rfl
   have hlaid:Laid W (w.heap.size+3) (w.heap.size+1) m.vars i sl:=⟨HL.out.map.on (hbW.block _ HL.out.map.lt),fun g hg=>⟨(HL.out.at' g hg).1,(hbW.block _ (zf (HL.out.at' g hg).2)).trans (HL.out.at' g hg).2⟩,HL.out.inj⟩
   have hmk:=vd (vlen m.vars[i]) (by omega)
   have hmx:=run_maxI m.vars[i]
   obtain⟨w3,hmu,q1,q2,q3⟩:=(hlaid.map.on (w':=(W.alloc (.cells (ints (List.replicate (vlen m.vars[i]) 0)).toArray 2)).drew) (Below.heap_alloc _ _ _ hlaid.map.lt)).store (t:=105) Tryz.underlying105 (by omega) m.vars[i].name hnl (.slice (some ⟨W.heap.size,0,none⟩) (vlen m.vars[i]) (vlen m.vars[i]))
   have HL3:Hid (Laid w3 (w.heap.size+3) (w.heap.size+1) m.vars (i+1) (fun k=>if k=m.vars[i].name then W.heap.size else sl k)):=by
    refine hlaid.add hia HND.out (by omega) (by omega) q1 (fun b hb hne=>(q2.block b (by show b<(W.alloc _).heap.size;simp;omega) hne).trans (Below.heap_alloc _ _ _ hb)) ((q2.block _ (by show W.heap.size<(W.alloc _).heap.size;simp) (by omega)).trans (zo _ _)) (fun g hg e=>?_)
    have:=(hlaid.at' g hg).1
    omega
   have HE3:Hid (Ext (w.heap.size+1) w0 w3):=by
    refine(HE.out.trans (Ext.below hbW)).trans (Ext.trans ?_ q2)
    exact⟨rfl,rfl,rfl,by show W.heap.size<=(W.alloc _).heap.size;simp,fun b hb _=>Below.heap_alloc _ _ _ hb⟩
   have hvl':(vlen m.vars[i]:Int)<=1000:=by omega
   have hl1:wr.heap.size<W.heap.size:=by omega
   have hl2:w.heap.size+1+1<W.heap.size:=by omega
   rw[hsW]at hmu
   have l5':(W.alloc (.cells (ints (List.replicate (vlen m.vars[i]) 0)).toArray 2)).cell? ⟨w.heap.size+1+1,5,none⟩=some (.map (some (w.heap.size+1))):=(World.cell?_of_block (w:=W) (Below.heap_alloc _ _ _ hl2)).trans l5
   have g0':(W.alloc (.cells (ints (List.replicate (vlen m.vars[i]) 0)).toArray 2)).cell? ⟨wr.heap.size,0,none⟩=some (.string (bs m.vars[i].name)):=(World.cell?_of_block (w:=W) (Below.heap_alloc _ _ _ hl1)).trans g0
   have g2':(W.alloc (.cells (ints (List.replicate (vlen m.vars[i]) 0)).toArray 2)).cell? ⟨wr.heap.size,2,none⟩=some (.int .i64 (m.vars[i].len:Int)):=(World.cell?_of_block (w:=W) (Below.heap_alloc _ _ _ hl1)).trans g2
   clear hcell hbW hkW hlbW hlaid q1 q2 q3 hgc HL HE hnl hvl
   generalize vlen m.vars[i]=vg at *
   generalize m.vars[i].name=nm at *
   generalize (m.vars[i].pos:Int)=ps at *
   generalize (m.vars[i].len:Int)=ln at *
   generalize m.vars[i].seen=sn at *
   go_upto_region 5 with fail
   rw[<-hW]
   clear hW c0 c1 c2 c3
   go_region
   go_wp2_with fail
   go_roundg (gn - (i+1))
   case measure=>omega
   case rel=>exact⟨i+1,_,by omega,rfl,by go_num,HL3,HE3⟩
  ·have hlt':¬(i:Int)<(gn:Int):=by omega
   have hei:i=m.vars.length:=by have:=HGN.out;omega
   have hfin:Below w.heap.size w wr:=HB0.out.trans (zX HE.out (by omega) (by omega))
   have hblk:wr.heap[w.heap.size+2]?=some (.cells #[.string (bs m.name),.slice ia m.imports.length ic,.slice ga m.vars.length gc,.slice pa m.procs.length pc,.slice ba m.body.length bc,.map (some (w.heap.size+1))] 107 (0,0)):=by
    rw[HE.out.block _ (by omega) (by omega)]
    exact HK2.out
   have hla:=HL.out
   rw[hei]at hla
   have HR:Hid (FreshP w m ia ga pa ba ic gc pc bc (.returned (.pointer (some ⟨w.heap.size+2,0,none⟩))) wr):=by
    refine⟨hfin,w.heap.size+2,w.heap.size+1,sl,rfl,by omega,by omega,by omega,hblk,⟨hla.map,fun g hg=>⟨by have:=(hla.at' g hg).1;omega,(hla.at' g hg).2⟩,hla.inj⟩,fun g hg=>?_⟩
    have:=(hla.at' g (by simpa using hg)).1
    omega
   clear hfin hblk hla HL HE
   go_wp2_with fail
   go_ret
   exact HR.out
theorem Tryz.mapNil (w:World):(binOp .eql 26 (.map none) (.map none)).run Tryz.prog w=.ok (.bool true) w:=by kernel_rfl
theorem Tryz.mapSome (b:Nat) (w:World):(binOp .eql 26 (.map (some b)) (.map none)).run Tryz.prog w=.ok (.bool false) w:=by kernel_rfl
def AddP (w:World) (wb lb:Nat) (nm:Bs) (e:Ending) (w':World):Prop:=e=.returned (.tuple #[])/\Ext wb w w'/\∃ tb nv,w'.heap[wb]?=some (.cells #[nv,.map (some tb)] 28 (0,0))/\w.heap.size<=tb/\MapV w' tb 1 (updV (fun _=>none) nm (.pointer (some ⟨lb,0,none⟩)))/\w'.ownsRow 0 9 1 nv 1 [.string (bs nm)]/\∀ b,nv.ownBlock=some b->w.heap.size<=b/\b≠tb
theorem add_fin {w w2 w3:World}{wb lb:Nat}{nm:Bs}{v3:Value}(hwl:wb<w.heap.size) (hx:Ext wb w w2) (hm:MapV w2 w.heap.size 1 (updV (fun _=>none) nm (.pointer (some ⟨lb,0,none⟩)))) (hs:w2.heap.size=w.heap.size+1) (e3:w3.heap[wb]?=some (.cells #[.slice none 0 0,.map (some w.heap.size)] 28 (0,0))) (hb:Below w2.heap.size w2 w3) (q1:w3.ownsRow 0 9 1 v3 1 [.string (bs nm)]) (q3:∀ g,v3.ownBlock=some g->w2.heap.size<=g):AddP w wb lb nm (.returned (.tuple #[])) (w3.setCell ⟨wb,0,none⟩ v3):=by
 refine⟨rfl,(hx.trans (Ext.below hb)).set 0 _,w.heap.size,v3,(zu 0 _ e3).trans rfl,Nat.le_refl _,hm.on ((zx _ (by omega)).trans (hb.block _ (by omega))),zH q1 (fun b _ _ h3=>zx b (by have:=q3 b h3;omega)),fun b h3=>by have:=q3 b h3;omega⟩
theorem add_first {w:World}{wb lb:Nat}{nm:Bs}{v1 v2 v3 v4 v5:Value}(hw:w.heap[wb]?=some (.cells #[.slice none 0 0,.map none] 28 (0,0))) (hl:w.heap[lb]?=some (.cells #[.string (bs nm),v1,v2,v3,v4,v5] 107 (0,0))) (hne:lb≠wb) (hn:nm.length<=1000000) :
  Calls Tryz.prog 40 #[.pointer (some ⟨wb,0,none⟩),.pointer (some ⟨lb,0,none⟩)] w (AddP w wb lb nm):=by
 obtain⟨i1,hi,hz0,hz1,hz2⟩:=info_parts Tryz.infoString
 have hmm:=@run_makeMap Tryz.prog
 have hmn:=Tryz.mapNil
 have hwl:=zf hw
 have hll:=zf hl
 have k1:w.cell? ⟨wb,1,none⟩=some (.map none):=(za hw).trans rfl
 have hz:w.frozen? ⟨wb,1,none⟩=false:=zi hw
 obtain⟨w1,hw1⟩:∃ w1,w1=(w.setCell ⟨wb,1,none⟩ (.map (some w.heap.size))).alloc (.map #[] 0):=⟨_,rfl⟩
 have hb1:w1.heap[wb]?=some (.cells #[.slice none 0 0,.map (some w.heap.size)] 28 (0,0)):=by rw[hw1];exact(Below.heap_alloc _ _ _ (by simpa using hwl)).trans ((zu 1 _ hw).trans rfl)
 have hl1:w1.heap[lb]?=some (.cells #[.string (bs nm),v1,v2,v3,v4,v5] 107 (0,0)):=by rw[hw1];exact(Below.heap_alloc _ _ _ (by simpa using hll)).trans ((zx _ hne).trans hl)
 have hs1:w1.heap.size=w.heap.size+1:=by rw[hw1];simp
 have hx1:Ext wb w w1:=by
  rw[hw1]
  exact((Ext.refl wb w).set 1 _).trans (Ext.below (zb _ _))
 have hm1:MapV w1 w.heap.size 0 (fun _=>none):=by
  have:=MapV.made (w.setCell ⟨wb,1,none⟩ (.map (some w.heap.size)))
  rw[set_size]at this
  rw[hw1]
  exact this
 obtain⟨w2,hmu,q1,q2,q3⟩:=(hm1.on (w':=w1.drew) rfl).store (t:=26) Tryz.underlying26 (by omega) nm hn (.pointer (some ⟨lb,0,none⟩))
 have hb2:w2.heap[wb]?=some (.cells #[.slice none 0 0,.map (some w.heap.size)] 28 (0,0)):=(q2.block wb (by show wb<w1.heap.size;omega) (by omega)).trans hb1
 have hl2:w2.heap[lb]?=some (.cells #[.string (bs nm),v1,v2,v3,v4,v5] 107 (0,0)):=(q2.block lb (by show lb<w1.heap.size;omega) (by omega)).trans hl1
 have hs2:w2.heap.size=w.heap.size+1:=q3.trans hs1
 have hx2:∀ b,b<w.heap.size->b≠wb->w2.heap[b]?=w.heap[b]?:=fun b h1 h2=>(q2.block b (by show b<w1.heap.size;omega) (by omega)).trans (hx1.block b h1 h2)
 have HX2:Hid (Ext wb w w2):=⟨q2.os.trans hx1.os,q2.tape.trans hx1.tape,q2.output.trans hx1.output,by omega,hx2⟩
 have HM2:=zh q1
 have m1:w1.cell? ⟨wb,1,none⟩=some (.map (some w.heap.size)):=(za hb1).trans rfl
 have ml:w1.cell? ⟨lb,0,none⟩=some (.string (bs nm)):=(za hl1).trans rfl
 have n0:w2.cell? ⟨wb,0,none⟩=some (.slice none 0 0):=(za hb2).trans rfl
 have nl:w2.cell? ⟨lb,0,none⟩=some (.string (bs nm)):=(za hl2).trans rfl
 have hwl1:wb<w1.heap.size:=zf hb1
 have hll1:lb<w1.heap.size:=zf hl1
 have hwl2:wb<w2.heap.size:=zf hb2
 have hll2:lb<w2.heap.size:=zf hl2
 have HB2:=zh hb2
 have hn0:∀ ob,(w2.alloc ob).cell? ⟨wb,0,none⟩=some (.slice none 0 0):=fun ob=>(World.cell?_of_block (w:=w2) (Below.heap_alloc _ _ _ hwl2)).trans n0
 have hnl:∀ ob,(w2.alloc ob).cell? ⟨lb,0,none⟩=some (.string (bs nm)):=fun ob=>(World.cell?_of_block (w:=w2) (Below.heap_alloc _ _ _ hll2)).trans nl
 have HS1:=zh hs1
 have HS2:=zh hs2
 clear hw hl hb1 hl1 hs1 hx1 hm1 q1 q2 q3 hb2 hl2 hs2 hx2
 go_enter Tryz.func40,Tryz.ntmps40
 go_upto_region 2 with fail
 rw[<-hw1]
 clear hw1 hz k1
 go_region
 clear m1 ml hmu
 go_upto_region 3 with fail
 go_region_law (first|(refine zW rfl (.tmp 27) (.tmp 33) 25 rfl 0 9 i1 (.string ⟨#[]⟩) 1 16 Tryz.underlying25 hi hz0 hz1 hz2 rfl (by decide) (.slice none 0 0) 0 [] (by simp[Act.eval]) (World.ownsRow_nil _ _ _ _) ⟨w2.heap.size,0,none⟩ 1 1 [.string (bs nm)] (by simp[Act.eval]) rfl ?news (by intro u hu;simp at hu;subst hu;rfl) (by unfold maxLen;omega) (by omega) (by omega) ?_;(case news=>(intro j u hj;rw[Addr.add_lit];cases j with|zero=>(simp at hj;subst hj;first|exact(za (zo w2 _)).trans rfl|exact(za (zo w2.drew _)).trans rfl)|succ j=>simp at hj));intro v3' w3 q1 q2 q3;obtain⟨a3,c3,hv3⟩:=zw q1;subst hv3;have e3:w3.heap[wb]?=some (.cells #[.slice none 0 0,.map (some w.heap.size)] 28 (0,0)):=(q2.block wb (by simp;omega) (fun e=>by cases e)).trans ((Below.heap_alloc w2 _ wb hwl2).trans HB2.out);have n3:w3.cell? ⟨wb,0,none⟩=some (.slice none 0 0):=(za e3).trans rfl;have z3:w3.frozen? ⟨wb,0,none⟩=false:=zi e3;have HFIN:=zh (add_fin hwl HX2.out HM2.out HS2.out e3 (by first|exact⟨q2.os,q2.tape,q2.output,(by have:=q2.size;simp at this;omega),fun b hb=>(q2.block b (by simp;omega) (fun e=>by cases e)).trans (Below.heap_alloc w2 _ b hb)⟩) q1 (fun g hg=>(q3 g hg).elim (fun z=>(by cases z)) (fun z=>(by simp at z;omega))));clear q1 q2 q3 e3))
 all_goals exact bodyPost_end (results_none rfl _ _ _) rfl HFIN.out
def VLo (L:List Lo) (b:Nat):Prop:=∃ lo∈L,∃ g∈lo.m.vars,b=lo.sl g.name
def thrL (L:List Lo) (k:Bs):Option Value:=(L.find? fun lo=>lo.m.name == k).map fun lo=>.pointer (some ⟨lo.lb,0,none⟩)
def StB (X:Nat->Prop) (L:List Lo) (wb tb:Nat) (nv:Value) (b:Nat):Prop:=¬X b/\¬VLo L b/\b≠wb/\b≠tb/\nv.ownBlock≠some b
structure WW (X:Nat->Prop) (w:World) (wb:Nat) (L:List Lo) (P:List Pt) (nv:Value) (tb:Nat):Prop where
 blk:w.heap[wb]?=some (.cells #[nv,.map (some tb)] 28 (0,0))
 xw:¬X wb/\¬VLo L wb
 nm:w.ownsRow 0 9 1 nv L.length (strs (L.map fun lo=>lo.m.name))
 nx:∀ b,nv.ownBlock=some b->¬X b/\b≠wb/\b≠tb/\¬VLo L b
 tx:¬X tb/\tb≠wb/\¬VLo L tb
 th:∃ n,n<=100/\MapV w tb n (thrL L)
 lo:∀ lo∈L,(∃ ia ga pa ba ic gc pc bc,w.heap[lo.lb]?=some (.cells (lcells lo.m ia ga pa ba ic gc pc bc lo.vb) 107 (0,0))/\MD w (StB X L wb tb nv) lo.m ia ga pa ba ic gc pc bc)/\StB X L wb tb nv lo.lb/\StB X L wb tb nv lo.vb/\(∃ n,MapV w lo.vb n (loV lo))/\Tp.FitM (L.map fun lo=>lo.m) lo.m
 sv:∀ b,VLo L b->b<w.heap.size/\¬X b
 nd:(L.map fun lo=>lo.m.name).Nodup
 inj:∀ lo∈L,∀ lo'∈L,∀ g∈lo.m.vars,∀ g'∈lo'.m.vars,lo.sl g.name=lo'.sl g'.name->lo.m.name=lo'.m.name/\g.name=g'.name
 vals:∀ lo∈L,∃ p,Tp.partOf P lo.m.name=some p/\ValOk w lo p
 mw:Tp.ms P=L.map fun lo=>lo.m
theorem yi (w:World) (tv:Option Nat) (fuel:Int):Below w.heap.size w (goesW w tv fuel):=((zb _ _).alloc (by simp) _).alloc (by simp;omega) _
theorem yv (w:World) (tv:Option Nat) (fuel:Int):(goesW w tv fuel).heap.size=w.heap.size+3:=by unfold goesW;simp
theorem goesW_gb (w:World) (tv:Option Nat) (fuel:Int):(goesW w tv fuel).heap[w.heap.size+1]?=some (.cells #[.map tv,.int .i64 fuel,.int .i64 0,.slice none 0 0] 152 (0,0)):=by
 unfold goesW
 rw[Below.heap_alloc _ _ _ (by simp)]
 have:=zo (w.alloc (.cells #[.int .i64 0,.slice none 0 0] 43)) (.cells #[.map tv,.int .i64 fuel,.int .i64 0,.slice none 0 0] 152)
 simpa using this
def cxOf (w:World) (tb fuel:Nat) (L:List Lo):Cx:=⟨goesW w (some tb) (fuel:Int),w.heap.size+1,tb,L⟩
theorem WW.cx {X:Nat->Prop}{w:World}{wb:Nat}{L:List Lo}{P:List Pt}{nv:Value}{tb:Nat}(h:WW X w wb L P nv tb) (fuel:Nat) (hf:fuel<=800000):CxOk (cxOf w tb fuel L)/\GS (cxOf w tb fuel L) (goesW w (some tb) (fuel:Int)) ⟨P,fuel,[]⟩ 0/\∀ b,¬OutB (cxOf w tb fuel L) (goesW w (some tb) (fuel:Int)) b:=by
 have hb:=yi w (some tb) (fuel:Int)
 have hgb:=goesW_gb w (some tb) (fuel:Int)
 have hlt:∀ {b:Nat} {o:Obj},w.heap[b]?=some o->b<w.heap.size:=fun q=>zf q
 have hD:∀ b,StB X L wb tb nv b->b<w.heap.size->(goesW w (some tb) (fuel:Int)).heap[b]?=w.heap[b]?/\(cxOf w tb fuel L).D b:=fun b hs hl=>⟨hb.block b hl,by show b<w.heap.size+1;omega,hs.2.1⟩
 have htl:tb<w.heap.size:=by obtain⟨n,_,hm⟩:=h.th;exact hm.lt
 have hok:CxOk (cxOf w tb fuel L):=by
  refine⟨⟨by show tb<w.heap.size+1;omega,h.tx.2.2⟩,?_,h.nd,fun lo hl=>?_,h.inj⟩
  ·obtain⟨n,_,hm⟩:=h.th
   exact⟨n,hm.on (hb.block _ htl)⟩
  ·obtain⟨⟨ia,ga,pa,ba,ic,gc,pc,bc,h1,h2⟩,h3,h4,⟨n,h5⟩,h6⟩:=h.lo lo hl
   exact⟨⟨ia,ga,pa,ba,ic,gc,pc,bc,(hb.block _ (hlt h1)).trans h1,h2.mono hD⟩,(hD _ h3 (hlt h1)).2,(hD _ h4 h5.lt).2,⟨n,h5.on (hb.block _ h5.lt)⟩,fun g hg=>by
    have:=(h.sv _ ⟨lo,hl,g,hg,rfl⟩).1
    show _<w.heap.size+1
    omega,h6⟩
 refine⟨hok,⟨fun b _=>rfl,⟨.slice none 0 0,hgb,World.ownsRow_nil _ _ _ _⟩,h.mw,fun lo hl=>?_,by simp,fun v hv=>(by cases hv),hf,by omega⟩,?_⟩
 ·obtain⟨p,p1,p2,p3⟩:=h.vals lo hl
  exact⟨p,p1,p2,fun g hg=>⟨(p3 g hg).1,(hb.block _ (h.sv _ ⟨lo,hl,g,hg,rfl⟩).1).trans (p3 g hg).2.1,(p3 g hg).2.2⟩⟩
 ·rintro b ⟨v,h1,h2⟩
  have h0:(goesW w (some tb) (fuel:Int)).cell? ⟨(cxOf w tb fuel L).gb,3,none⟩=some (.slice none 0 0):=(za hgb).trans rfl
  rw[h0]at h1
  cases h1
  cases h2
theorem WW.keep {X:Nat->Prop}{w w':World}{wb:Nat}{L:List Lo}{P P':List Pt}{nv:Value}{tb:Nat}(h:WW X w wb L P nv tb) (hk:∀ b,b<w.heap.size->¬X b->¬VLo L b->w'.heap[b]?=w.heap[b]?) (hsz:w.heap.size<=w'.heap.size) (hv:∀ lo∈L,∃ p,Tp.partOf P' lo.m.name=some p/\ValOk w' lo p) (hm:Tp.ms P'=L.map fun lo=>lo.m):WW X w' wb L P' nv tb:=by
 have hwl:=zf h.blk
 have htl:tb<w.heap.size:=by obtain⟨n,_,hm⟩:=h.th;exact hm.lt
 have hD:∀ b,StB X L wb tb nv b->b<w.heap.size->w'.heap[b]?=w.heap[b]?/\StB X L wb tb nv b:=fun b hs hl=>⟨hk b hl hs.1 hs.2.1,hs⟩
 refine⟨(hk _ hwl h.xw.1 h.xw.2).trans h.blk,h.xw,zH h.nm (fun b _ hl ho=>hk b hl (h.nx b ho).1 (h.nx b ho).2.2.2),h.nx,h.tx,?_,fun lo hl=>?_,fun b hb=>⟨Nat.lt_of_lt_of_le (h.sv b hb).1 hsz,(h.sv b hb).2⟩,h.nd,h.inj,hv,hm⟩
 ·obtain⟨n,hn,hm⟩:=h.th
  exact⟨n,hn,hm.on (hk _ htl h.tx.1 h.tx.2.2)⟩
 ·obtain⟨⟨ia,ga,pa,ba,ic,gc,pc,bc,h1,h2⟩,h3,h4,⟨n,h5⟩,h6⟩:=h.lo lo hl
  exact⟨⟨ia,ga,pa,ba,ic,gc,pc,bc,((hD _ h3 (zf h1)).1).trans h1,h2.mono hD⟩,h3,h4,⟨n,h5.on (hD _ h4 h5.lt).1⟩,h6⟩
theorem WW.after {X:Nat->Prop}{w w2 w':World}{wb:Nat}{L:List Lo}{P:List Pt}{nv:Value}{tb fuel k:Nat}{s:Rs}(h:WW X w wb L P nv tb) (hf:fuel<=800000) (hg:GS (cxOf w tb fuel L) w2 s k) (hk:Kp (cxOf w tb fuel L) nY (goesW w (some tb) (fuel:Int)) w2) (hx:Ext w.heap.size w2 w'):WW X w' wb L s.w nv tb/\∀ b,b<w.heap.size->¬VLo L b->w'.heap[b]?=w.heap[b]?:=by
 obtain⟨hok,hg0,hno⟩:=h.cx fuel hf
 have hb:=yi w (some tb) (fuel:Int)
 have hs:=yv w (some tb) (fuel:Int)
 have hsz:=hk.size
 have hkk:∀ b,b<w.heap.size->¬VLo L b->w'.heap[b]?=w.heap[b]?:=fun b hl hv =>
  ((hx.block b (by omega) (by omega)).trans (hk.block b (by omega) (by show b≠w.heap.size+1;omega) hv (hno b) (fun q=>q))).trans (hb.block b hl)
 refine⟨h.keep (fun b hl _ hv=>hkk b hl hv) (by have:=hx.size;omega) (fun lo hl=>?_) hg.mw,hkk⟩
 obtain⟨p,p1,p2,p3⟩:=hg.vals lo hl
 exact⟨p,p1,p2,fun g hgm=>⟨(p3 g hgm).1,(hx.block _ (zf (p3 g hgm).2.1) (by have:=(h.sv _ ⟨lo,hl,g,hgm,rfl⟩).1;omega)).trans (p3 g hgm).2.1,(p3 g hgm).2.2⟩⟩
def WayA {α:Type}(c:Cx) (w1:World) (r:Rr α) (way:Int) (w2:World):Prop:=match r with
 | .ok _ s'=>way=1/\∃ k,GS c w2 s' k/\Kp c nY w1 w2
 | .stop wy s'=>way=(wy:Int)/\∃ k,GS c w2 s' k/\Kp c nY w1 w2
 | .gas=>False
theorem held_of {w w2:World}{tb fuel k:Nat}{L:List Lo}{s:Rs}(_:CxOk (cxOf w tb fuel L)) (hno:∀ b,¬OutB (cxOf w tb fuel L) (goesW w (some tb) (fuel:Int)) b) (hV:∀ b,VLo L b->b<w.heap.size) (hg:GS (cxOf w tb fuel L) w2 s k) (hk:Kp (cxOf w tb fuel L) nY (goesW w (some tb) (fuel:Int)) w2):GoHeld w (goesW w (some tb) (fuel:Int)) w2:=by
 have hs:=yv w (some tb) (fuel:Int)
 refine⟨hk.block _ (by omega) (by show w.heap.size≠w.heap.size+1;omega) (fun q=>by have:=hV _ q;omega) (hno _) (fun q=>q),hk.block _ (by omega) (by show w.heap.size+2≠w.heap.size+1;omega) (fun q=>by have:=hV _ q;omega) (hno _) (fun q=>q),?_⟩
 obtain⟨ov,h1,h2⟩:=hg.outIs
 obtain⟨oa,oc,rfl⟩:=zw h2
 exact⟨oa,_,oc,h1⟩
theorem cf_load (args:Array Value) (w:World):(callFunc 42 args).run Tryz.prog w=.ok (.enter 42 args) w:=by kernel_rfl
theorem cf_call (args:Array Value) (w:World):(callFunc 55 args).run Tryz.prog w=.ok (.enter 55 args) w:=by kernel_rfl
theorem load1_post {X:Nat->Prop}{w:World}{wb:Nat}{L:List Lo}{P:List Pt}{nv:Value}{tb fuel xl xm bn bc gas:Nat}{ba:Option Addr}(h:WW X w wb L P nv tb) (hf:fuel<=800000) {lo:Lo}(hlo:lo∈L) (kl:w.cell? ⟨xl,0,none⟩=some (.pointer (some ⟨lo.lb,0,none⟩))) (km:w.cell? ⟨xm,4,none⟩=some (.slice ba bn bc))
  (hss:Ss (cxOf w tb fuel L) lo [] lo.m.body (.slice ba bn bc)) (hng:Tp.goS gas 0 lo.m.name (fun _=>none) lo.m.body ⟨P,fuel,[]⟩≠.gas) :
  Calls Tryz.prog 42 #[.pointer (some ⟨w.heap.size+1,0,none⟩),.pointer (some ⟨xl,0,none⟩),.pointer (some ⟨xm,0,none⟩)] (goesW w (some tb) (fuel:Int)) fun e w2=>GoHeld w (goesW w (some tb) (fuel:Int)) w2/\((e=.returned (.tuple #[])/\WayA (cxOf w tb fuel L) (goesW w (some tb) (fuel:Int)) (Tp.goS gas 0 lo.m.name (fun _=>none) lo.m.body ⟨P,fuel,[]⟩) 1 w2)\/∃ way:Int,thrE endT way e/\WayA (cxOf w tb fuel L) (goesW w (some tb) (fuel:Int)) (Tp.goS gas 0 lo.m.name (fun _=>none) lo.m.body ⟨P,fuel,[]⟩) way w2):=by
 obtain⟨hok,hg0,hno⟩:=h.cx fuel hf
 have hV:∀ b,VLo L b->b<w.heap.size:=fun b hb=>(h.sv b hb).1
 have hb:=yi w (some tb) (fuel:Int)
 have hs:=yv w (some tb) (fuel:Int)
 have HHE:=zh (fun w2 k s=>held_of (w2:=w2) (k:=k) (s:=s) hok hno hV)
 have hcg:(cxOf w tb fuel L).gb=w.heap.size+1:=rfl
 have hcl:(cxOf w tb fuel L).L=L:=rfl
 generalize cxOf w tb fuel L=c at *
 generalize goesW w (some tb) (fuel:Int)=w1 at *
 obtain⟨w3,hw3⟩:∃ w3,w3=w1.alloc (.cells #[.pointer (some ⟨w.heap.size+1,0,none⟩),.pointer (some ⟨lo.lb,0,none⟩),.map none] 98):=⟨_,rfl⟩
 have hb3:Below w1.heap.size w1 w3:=by rw[hw3];exact zb _ _
 have hsc:Sc c w3 w1.heap.size none lo (fun _=>none) [] fuel:=by
  refine⟨by omega,fun q=>?_,by rw[hw3,hcg];exact zo _ _,fun _=>rfl,fun k v q=>(by cases q),fun k=>by simp,by rw[hcl];exact hlo⟩
  exact hno _ ((yr (hb3.block c.gb (by omega)) _).1 q)
 have HB:=zh (run_body hok gas 0 lo (fun _=>none) [] lo.m.body (.slice ba bn bc) w3 ⟨P,fuel,[]⟩ w1.heap.size none hss (hg0.below hok hb3) hsc hng)
 have k1:w1.cell? ⟨xl,0,none⟩=some (.pointer (some ⟨lo.lb,0,none⟩)):=(hb.cell (p:=⟨xl,0,none⟩) (zg kl)).trans kl
 have k4:w3.cell? ⟨xm,4,none⟩=some (.slice ba bn bc):=(hb3.cell (p:=⟨xm,4,none⟩) (by have:=zg km;show xm<w1.heap.size;omega)).trans ((hb.cell (p:=⟨xm,4,none⟩) (zg km)).trans km)
 have hxl1:xl<w1.heap.size:=zg k1
 have hxm3:xm<w3.heap.size:=zg k4
 have HK3:Hid (Kp c nY w1 w3):=Kp.below hb3 (by omega)
 clear h hok hg0 hno hV hb hs hss hsc kl km hb3
 generalize Tp.goS gas 0 lo.m.name (fun _=>none) lo.m.body ⟨P,fuel,[]⟩=r at *
 have HNY:Hid (∀ W,Kp c (oY none) w3 W->Kp c nY w1 W):=fun W q=>HK3.out.trans (q.mono fun b z=>by cases z)
 clear hcg hcl
 cases r with
 | gas=>exact absurd rfl hng
 | stop way s' =>
  clear hng
  go_enter Tryz.func42,Tryz.ntmps42
  go_upto_region 1 with fail
  rw[<-hw3]
  clear hw3 k1
  go_wp2_with fail
  refine HB.out.mono ?_
  rintro e w4 ⟨⟨older,rfl⟩,⟨k',hg4⟩,hk4⟩
  have HF:Hid (GoHeld w w1 w4/\WayA c w1 (.stop way s':Rr (Own× Option Int)) (way:Int) w4):=⟨HHE.out _ _ _ hg4 (HNY.out _ hk4),rfl,k',hg4,HNY.out _ hk4⟩
  clear hg4 hk4
  go_wp2_with fail
  exact⟨rfl,HF.out.1,Or.inr ⟨(way:Int),⟨older,rfl⟩,HF.out.2⟩⟩
 | ok r1 s' =>
  clear hng
  go_enter Tryz.func42,Tryz.ntmps42
  go_upto_region 1 with fail
  rw[<-hw3]
  clear hw3 k1
  go_wp2_with fail
  refine HB.out.mono ?_
  rintro e w4 ⟨rfl,hg4,hk4,_,_⟩
  have HF:Hid (GoHeld w w1 w4/\WayA c w1 (.ok r1 s') 1 w4):=⟨HHE.out _ _ _ hg4 (HNY.out _ hk4),rfl,0,hg4,HNY.out _ hk4⟩
  clear hg4 hk4
  go_wp2_with fail
  exact bodyPost_end (results_none rfl _ _ _) rfl ⟨HF.out.1,Or.inl ⟨rfl,HF.out.2⟩⟩
theorem xu {m:Tp.M}{g:G}(hn:(m.vars.map (·.name)).Nodup) (hg:g∈m.vars):Tp.fresh m g.name=List.replicate (vlen g) 0:=by
 have:m.vars.find? (fun x=>x.name == g.name)=some g:=Tp.varOf_mem hn hg
 unfold Tp.fresh vlen
 rw[this]
theorem WW.less {X Y:Nat->Prop}{w:World}{wb:Nat}{L:List Lo}{P:List Pt}{nv:Value}{tb:Nat}(h:WW X w wb L P nv tb) (hs:∀ b,Y b->X b):WW Y w wb L P nv tb:=by
 have hS:∀ b,StB X L wb tb nv b->StB Y L wb tb nv b:=fun b q=>⟨fun z=>q.1 (hs b z),q.2⟩
 refine⟨h.blk,⟨fun z=>h.xw.1 (hs _ z),h.xw.2⟩,h.nm,fun b hb=>⟨fun z=>(h.nx b hb).1 (hs _ z),(h.nx b hb).2⟩,⟨fun z=>h.tx.1 (hs _ z),h.tx.2⟩,h.th,fun lo hl=>?_,fun b hb=>⟨(h.sv b hb).1,fun z=>(h.sv b hb).2 (hs _ z)⟩,h.nd,h.inj,h.vals,h.mw⟩
 obtain⟨⟨ia,ga,pa,ba,ic,gc,pc,bc,h1,h2⟩,h3,h4,h5,h6⟩:=h.lo lo hl
 exact⟨⟨ia,ga,pa,ba,ic,gc,pc,bc,h1,h2.mono (fun b hb _=>⟨rfl,hS b hb⟩)⟩,hS _ h3,hS _ h4,h5,h6⟩
theorem uM {w:World}{base:Nat}{v:Value}{l:List Int}(h:w.ownsRow base 2 1 v l.length (ints l)):∃ oa oc,v=.slice oa l.length oc/\IntsAt w l oa/\(∀ a,oa=some a->base<=a.block)/\l.length<=oc:=by
 rcases h.2 with⟨hv,h0⟩|⟨g,cap,cur,hv,hb,hg,h4,h5,h6,h7⟩
 ·exact⟨none,0,by rw[hv,h0],⟨fun i hi=>by omega⟩,fun a e=>(by cases e),by omega⟩
 ·refine⟨_,_,hv,⟨fun i hi=>⟨g,0,rfl,zf hg,?_⟩⟩,fun a e=>(by cases e;exact hb),h4⟩
  rw[Nat.zero_add,za hg]
  have h8:(ints l)[i]?=some (.int .i64 l[i]):=by unfold ints;simp[hi]
  rw[<-h7,Nat.mul_one,List.getElem?_take_of_lt hi]at h8
  simpa using h8
structure GonP (X:Nat->Prop) (w:World) (wb:Nat) (L:List Lo) (nv:Value) (tb:Nat) (P':List Pt) (out:List Int) (oa:Option Addr) (w':World):Prop where
 ww:WW X w' wb L P' nv tb
 keep:∀ b,b<w.heap.size->¬VLo L b->w'.heap[b]?=w.heap[b]?
 it:IntsAt w' out oa
 oi:∀ v∈out,Tp.I64 v
 ol:out.length<=200
 far:∀ a,oa=some a->w.heap.size<=a.block
 size:w.heap.size<=w'.heap.size
 os:w'.os=w.os
 tape:w'.tape=w.tape
 output:w'.output=w.output
theorem gone {α:Type}{X:Nat->Prop}{w w':World}{wb:Nat}{L:List Lo}{P:List Pt}{nv:Value}{tb fuel:Nat}{r:Rr α}{e:Ending}(h:WW X w wb L P nv tb) (hf:fuel<=800000) (hg:GoesP w (WayA (cxOf w tb fuel L) (goesW w (some tb) (fuel:Int)) r) e w') :
  ∃ oa oc,e=.returned (.agg #[.int .i64 ((Tp.endOf r).2.way:Int),.slice oa (Tp.endOf r).2.out.length oc])/\(Tp.endOf r).2.out.length<=oc/\GonP X w wb L nv tb (Tp.endOf r).1 (Tp.endOf r).2.out oa w':=by
 obtain⟨w2,way,oa,on,oc,hA,hc,he,hx⟩:=hg
 have fin:∀(s:Rs) (k:Nat),GS (cxOf w tb fuel L) w2 s k->Kp (cxOf w tb fuel L) nY (goesW w (some tb) (fuel:Int)) w2->on=s.out.length/\s.out.length<=oc/\GonP X w wb L nv tb s.w s.out oa w':=by
  intro s k hgs hk
  have hb:=yi w (some tb) (fuel:Int)
  have hsz:=hb.size
  obtain⟨hww,hkk⟩:=h.after hf hgs hk hx
  obtain⟨ov,h1,h2⟩:=hgs.outIs
  have h1':w2.cell? ⟨w.heap.size+1,3,none⟩=some ov:=h1
  rw[hc]at h1'
  have h3:=(Option.some.inj h1').symm
  rw[h3]at h2
  have h2':=zH (w':=w') h2 (fun b hb hl _=>hx.block b hl (by have:w.heap.size+1+1<=b:=hb;omega))
  obtain⟨oa',oc',e1,e2,e3,e6⟩:=uM h2'
  injection e1 with e1 e4 e5
  subst e1
  exact⟨e4,by rw[e5];exact e6,hww,hkk,e2,hgs.oi,hgs.ol,fun a q=>by have:w.heap.size+1+1<=a.block:=e3 a q;omega,by have:=hk.size;have:=hx.size;omega,(hx.os.trans hk.os).trans hb.os,(hx.tape.trans hk.tape).trans hb.tape,(hx.output.trans hk.output).trans hb.output⟩
 cases r with
 | gas=>exact hA.elim
 | ok x s=>obtain⟨rfl,k,hgs,hk⟩:=hA;obtain⟨rfl,q⟩:=fin s k hgs hk;exact⟨oa,oc,he,q⟩
 | stop wy s=>obtain⟨rfl,k,hgs,hk⟩:=hA;obtain⟨rfl,q⟩:=fin s k hgs hk;exact⟨oa,oc,he,q⟩
theorem ss_body {Y:Nat->Prop}{w:World}{wb tb fuel:Nat}{L:List Lo}{P:List Pt}{nv:Value}{lo:Lo}{ia ga pa ba:Option Addr}{ic gc pc bc:Nat}(h:WW Y w wb L P nv tb) (hf:fuel<=800000) (hlo:lo∈L) (hb:w.heap[lo.lb]?=some (.cells (lcells lo.m ia ga pa ba ic gc pc bc lo.vb) 107 (0,0))):Ss (cxOf w tb fuel L) lo [] lo.m.body (.slice ba lo.m.body.length bc):=by
 have hok:=(h.cx fuel hf).1.lo lo hlo
 obtain⟨ia',ga',pa',ba',ic',gc',pc',bc',h1,h2⟩:=hok.blk
 have h3:=((yi w (some tb) (fuel:Int)).block lo.lb (zf hb)).trans hb
 have h4:=h1.symm.trans h3
 unfold lcells at h4
 simp only [Option.some.injEq,Obj.cells.injEq,Array.mk.injEq,List.cons.injEq,Value.slice.injEq]at h4
 obtain⟨bcs,b1,b2⟩:=h2.bd
 refine⟨⟨bcs,b1,?_⟩,hok.fit.wm.b,hok.fit.bd⟩
 rw[<-h4.1.2.2.2.2.1.1,<-h4.1.2.2.2.2.1.2.2]
 exact b2
def ErrV (B:Nat) (w':World) (er:Nat× Option Nat) (v:Value):Prop:=match er.2 with
 | none=>v=.iface 44 (.int .i64 (er.1:Int))
 | some pl=>∃ ab,v=.iface 117 (.pointer (some ⟨ab,0,none⟩))/\B<=ab/\w'.cell? ⟨ab,0,none⟩=some (.int .i64 (er.1:Int))/\w'.cell? ⟨ab,1,none⟩=some (.int .i64 (pl:Int))
def no2:Value:=.agg #[.int .i64 0,.slice none 0 0]
end Go.Proofs.YtibncofnnlbmcaaGreatDoor
namespace Go.Proofs.YtibncofnnlbmcaaGreatDoor
open Go.RowKit
theorem Tryz.eqNilI (w:World):(binOp .eql 29 (.slice none 0 0) (.slice none 0 0)).run Tryz.prog w=.ok (.bool true) w:=by kernel_rfl
theorem Tryz.eqSomeI (w:World) (a:Addr) (n c:Nat):(binOp .eql 29 (.slice (some a) n c) (.slice none 0 0)).run Tryz.prog w=.ok (.bool false) w:=by kernel_rfl
theorem cloneI {w:World}{D:Nat->Prop}{v:Value}{n:Nat}{cs:List Value}(h:Row w D 2 1 v n cs) (hl:cs.length=n * 1) (h1:∀ u∈cs,u.oneCell'=true) (hn:n<=1000) :
  Calls Tryz.prog 52 #[v] w fun e w'=>∃ v',e=.returned v'/\Below w.heap.size w w'/\w'.ownsRow w.heap.size 2 1 v' n cs:=by
 have hq0:=Tryz.eqNilI
 have hq1:=Tryz.eqSomeI
 obtain⟨i0,hi,hz0,hz1,hz2⟩:=info_parts Tryz.infoInt64
 rcases h with⟨rfl,rfl,rfl⟩|⟨g,cap,cur,rfl,hD,hb,hcap,hmx,hsz,htk⟩
 ·go_enter Tryz.func52,Tryz.ntmps52
  go_wp2_with fail
  go_ret
  exact⟨_,rfl,Below.refl _ _,World.ownsRow_nil _ _ _ _⟩
 ·have hal:Below w.heap.size w (w.alloc (.cells #[] 2)):=zb _ _
  have hown:(w.alloc (.cells #[] 2)).ownsRow w.heap.size 2 1 (.slice (some ⟨w.heap.size,0,none⟩) 0 0) 0 [] :=
   ⟨rfl,Or.inr ⟨w.heap.size,0,#[],rfl,Nat.le_refl _,zo _ _,Nat.le_refl _,by unfold maxLen;omega,rfl,rfl⟩⟩
  have hb':(w.alloc (.cells #[] 2)).heap[g]?=some (.cells cur 2 (0,0)):=(Below.heap_alloc _ _ _ (zf hb)).trans hb
  have hnews:∀ j u,cs[j]?=some u->(w.alloc (.cells #[] 2)).cell? ((⟨g,0,none⟩:Addr).add j)=some u:=by
   intro j u hj
   have hjl:j<n * 1:=by rw[<-hl];exact(List.getElem?_eq_some_iff.1 hj).1
   rw[Addr.add_lit,za hb',Nat.zero_add,<-Array.getElem?_toList,<-hj,<-htk,List.getElem?_take_of_lt hjl]
  have HO:=zh hown
  have HAL:=zh hal
  have HNW:=zh hnews
  have HL:=zh hl
  have H1:=zh h1
  clear hown hal hb' hb hnews hl h1 hsz htk
  go_enter Tryz.func52,Tryz.ntmps52
  go_wp2_with (at_builtin;refine zG _ rfl _ _ 29 rfl w.heap.size 2 i0 (.int .i64 0) 1 8 Tryz.underlying29 hi hz0 hz1 hz2 rfl (by decide) _ 0 [] rfl HO.out ⟨g,0,none⟩ n cap cs rfl HL.out HNW.out H1.out (by unfold maxLen;omega) (by omega) (by simp) ?_)
  intro v3 w3 h3 g3 _
  have HB3:Hid (Below w.heap.size w w3):=HAL.out.trans ((Below.refl w.heap.size _).grown g3 (by simp) (fun k hk=>(HO.out.lt k hk).1))
  have HO3:Hid (w3.ownsRow w.heap.size 2 1 v3 n cs):=by unfold Hid;simpa using h3
  clear h3 g3
  go_wp2_with fail
  go_ret
  exact⟨_,rfl,HB3.out,HO3.out⟩
theorem Tryz.eqNilT (w:World):(binOp .eql 25 (.slice none 0 0) (.slice none 0 0)).run Tryz.prog w=.ok (.bool true) w:=by kernel_rfl
theorem Tryz.eqSomeT (w:World) (a:Addr) (n c:Nat):(binOp .eql 25 (.slice (some a) n c) (.slice none 0 0)).run Tryz.prog w=.ok (.bool false) w:=by kernel_rfl
theorem cloneT {w:World}{D:Nat->Prop}{v:Value}{n:Nat}{cs:List Value}(h:Row w D 9 1 v n cs) (hl:cs.length=n * 1) (h1:∀ u∈cs,u.oneCell'=true) (hn:n<=1000) :
  Calls Tryz.prog 76 #[v] w fun e w'=>∃ v',e=.returned v'/\Below w.heap.size w w'/\w'.ownsRow w.heap.size 9 1 v' n cs:=by
 have hq0:=Tryz.eqNilT
 have hq1:=Tryz.eqSomeT
 obtain⟨i0,hi,hz0,hz1,hz2⟩:=info_parts Tryz.infoString
 rcases h with⟨rfl,rfl,rfl⟩|⟨g,cap,cur,rfl,hD,hb,hcap,hmx,hsz,htk⟩
 ·go_enter Tryz.func76,Tryz.ntmps76
  go_wp2_with fail
  go_ret
  exact⟨_,rfl,Below.refl _ _,World.ownsRow_nil _ _ _ _⟩
 ·have hal:Below w.heap.size w (w.alloc (.cells #[] 9)):=zb _ _
  have hown:(w.alloc (.cells #[] 9)).ownsRow w.heap.size 9 1 (.slice (some ⟨w.heap.size,0,none⟩) 0 0) 0 [] :=
   ⟨rfl,Or.inr ⟨w.heap.size,0,#[],rfl,Nat.le_refl _,zo _ _,Nat.le_refl _,by unfold maxLen;omega,rfl,rfl⟩⟩
  have hb':(w.alloc (.cells #[] 9)).heap[g]?=some (.cells cur 9 (0,0)):=(Below.heap_alloc _ _ _ (zf hb)).trans hb
  have hnews:∀ j u,cs[j]?=some u->(w.alloc (.cells #[] 9)).cell? ((⟨g,0,none⟩:Addr).add j)=some u:=by
   intro j u hj
   have hjl:j<n * 1:=by rw[<-hl];exact(List.getElem?_eq_some_iff.1 hj).1
   rw[Addr.add_lit,za hb',Nat.zero_add,<-Array.getElem?_toList,<-hj,<-htk,List.getElem?_take_of_lt hjl]
  have HO:=zh hown
  have HAL:=zh hal
  have HNW:=zh hnews
  have HL:=zh hl
  have H1:=zh h1
  clear hown hal hb' hb hnews hl h1 hsz htk
  go_enter Tryz.func76,Tryz.ntmps76
  go_wp2_with (at_builtin;refine zG _ rfl _ _ 25 rfl w.heap.size 9 i0 (.string ⟨#[]⟩) 1 16 Tryz.underlying25 hi hz0 hz1 hz2 rfl (by decide) _ 0 [] rfl HO.out ⟨g,0,none⟩ n cap cs rfl HL.out HNW.out H1.out (by unfold maxLen;omega) (by omega) (by simp) ?_)
  intro v3 w3 h3 g3 _
  have HB3:Hid (Below w.heap.size w w3):=HAL.out.trans ((Below.refl w.heap.size _).grown g3 (by simp) (fun k hk=>(HO.out.lt k hk).1))
  have HO3:Hid (w3.ownsRow w.heap.size 9 1 v3 n cs):=by unfold Hid;simpa using h3
  clear h3 g3
  go_wp2_with fail
  go_ret
  exact⟨_,rfl,HB3.out,HO3.out⟩
end Go.Proofs.YtibncofnnlbmcaaGreatDoor
namespace Go.Proofs.YtibncofnnlbmcaaGreatDoor
open Go.RowKit Go.Maps
open Tp (Bs X S G Pr Pt Rs Rr Own)
theorem vF {w:World}{wb:Nat}{nv mv:Value}{ns:List Bs}(hb:w.heap[wb]?=some (.cells #[nv,mv] 28 (0,0))) (hn:w.ownsRow 0 9 1 nv ns.length (strs ns)) (hl:ns.length<=1000) :
  Calls Tryz.prog 34 #[.pointer (some ⟨wb,0,none⟩)] w fun e w'=>∃ v',e=.returned v'/\Below w.heap.size w w'/\w'.ownsRow w.heap.size 9 1 v' ns.length (strs ns):=by
 have hr:Row w (fun _=>True) 9 1 nv ns.length (strs ns):=by
  rcases hn.2 with⟨h1,h2⟩|⟨g,cap,cur,h1,_,h3,h4,h5,h6,h7⟩
  ·have:ns=[]:=List.length_eq_zero_iff.1 h2
   subst this
   exact Or.inl ⟨h1,rfl,rfl⟩
  ·exact Or.inr ⟨g,cap,cur,h1,trivial,h3,h4,h5,h6,h7⟩
 have HC:=zh (cloneT hr (by simp[strs]) (fun u hu=>by simp[strs]at hu;obtain⟨b,_,rfl⟩:=hu;rfl) hl)
 obtain⟨ao,cap,rfl⟩:=zw hn
 have k0:w.cell? ⟨wb,0,none⟩=some (.slice ao ns.length cap):=(za hb).trans rfl
 have hwl:=zf hb
 obtain⟨n,hnn⟩:∃ n,n=ns.length:=⟨_,rfl⟩
 rw[<-hnn]at HC k0 ⊢
 clear hb hn hl hr hnn
 go_enter Tryz.func34,Tryz.ntmps34
 go_wp2_with fail
 refine HC.out.mono ?_
 rintro e w1 ⟨v',rfl,hb1,ho1⟩
 have HB1:=zh hb1
 have HO1:=zh ho1
 clear hb1 ho1
 go_wp2_with fail
 go_ret
 exact⟨_,rfl,HB1.out,HO1.out⟩
def GetP (w:World) (r:Option (List Int)) (e:Ending) (w':World):Prop:=Below w.heap.size w w'/\match r with
 | some xs=>∃ oa oc,e=.returned (.tuple #[.slice oa xs.length oc,.nilIface])/\IntsAt w' xs oa
 | none=>e=.returned (.tuple #[.slice none 0 0,.iface 44 (.int .i64 7)])
theorem WW.lookT {X:Nat->Prop}{w:World}{wb:Nat}{L:List Lo}{P:List Pt}{nv:Value}{tb:Nat}(h:WW X w wb L P nv tb) {lo:Lo}(hlo:lo∈L) (hmn:lo.m.name.length<=1000000):(Instr.lookup 26 (.map (some tb)) (.string (bs lo.m.name)) false).run Tryz.prog w=.ok (.pointer (some ⟨lo.lb,0,none⟩)) w:=by
 obtain⟨n,_,hm⟩:=h.th
 rw[hm.look (t:=26) Tryz.underlying26 (zeroLo _) lo.m.name hmn false]
 have:thrL L lo.m.name=some (.pointer (some ⟨lo.lb,0,none⟩)):=by
  unfold thrL
  rw[(Tp.find_key (key:=fun lo:Lo=>lo.m.name) h.nd lo).2 ⟨hlo,rfl⟩]
  rfl
 simp[this]
theorem get_in {X:Nat->Prop}{w:World}{wb:Nat}{L:List Lo}{P:List Pt}{nv:Value}{tb:Nat}(h:WW X w wb L P nv tb) {lo:Lo}(hlo:lo∈L) (nm:Bs) (hnl:nm.length<=1000000) :
  Calls Tryz.prog 23 #[.pointer (some ⟨wb,0,none⟩),.string (bs lo.m.name),.string (bs nm)] w (GetP w (Tp.getW P lo.m.name nm)):=by
 have hq0:=Tryz.eqNilI
 have hq1:=Tryz.eqSomeI
 obtain⟨⟨ia,ga,pa,ba,ic,gc,pc,bc,m1,m2⟩,_,_,⟨n,hvm⟩,hfit⟩:=h.lo lo hlo
 have hmn:lo.m.name.length<=1000000:=by have:=zQ hfit.wm.n;omega
 have hlk:=h.lookT hlo hmn
 have k1:w.cell? ⟨wb,1,none⟩=some (.map (some tb)):=(za h.blk).trans rfl
 have hwl:=zf h.blk
 have k5:w.cell? ⟨lo.lb,5,none⟩=some (.map (some lo.vb)):=(za m1).trans rfl
 have hll:=zf m1
 have hlv:=hvm.look (t:=105) Tryz.underlying105 (zeroI64s _) nm hnl false
 obtain⟨p,p1,p2,p3⟩:=h.vals lo hlo
 cases hv:Tp.varOf lo.m nm with
 | none =>
  have hg:Tp.getW P lo.m.name nm=none:=by
   unfold Tp.getW
   rw[p1,Option.bind_some,p2,if_neg]
   intro q
   obtain⟨g,g1,g2⟩:=List.any_eq_true.1 q
   exact absurd g2 (by simpa using List.find?_eq_none.1 hv g g1)
  have hlv':(Instr.lookup 105 (.map (some lo.vb)) (.string (bs nm)) false).run Tryz.prog w=.ok (.slice none 0 0) w:=by rw[hlv];simp[loV,hv]
  rw[hg]
  clear h hlo m1 m2 hvm hfit hlv p1 p2 p3 hv hg
  generalize bs nm=x at *
  generalize bs lo.m.name=y at *
  go_enter Tryz.func23,Tryz.ntmps23
  go_wp2_with fail
  go_ret2
  exact⟨Below.refl _ _,rfl⟩
 | some g =>
  have hgm:g∈lo.m.vars:=List.mem_of_find?_eq_some hv
  have hgn:g.name=nm:=by simpa using List.find?_some hv
  have hg:Tp.getW P lo.m.name nm=some (p.vars nm):=by
   unfold Tp.getW
   rw[p1,Option.bind_some,p2,if_pos]
   exact List.any_eq_true.2 ⟨g,hgm,by simpa using hgn⟩
  obtain⟨v1,v2,v3⟩:=p3 g hgm
  rw[hgn]at v1 v2 v3
  have hlv':(Instr.lookup 105 (.map (some lo.vb)) (.string (bs nm)) false).run Tryz.prog w=.ok (.slice (some ⟨lo.sl nm,0,none⟩) (vlen g) (vlen g)) w:=by rw[hlv];simp[loV,hv]
  have hvl:vlen g<=1000:=by have:=(hfit.wm.g g hgm).l;unfold vlen;split <;> omega
  have hr:Row w (fun _=>True) 2 1 (.slice (some ⟨lo.sl nm,0,none⟩) (vlen g) (vlen g)) (vlen g) (ints (p.vars nm)):=Or.inr ⟨lo.sl nm,vlen g,_,rfl,trivial,v2,Nat.le_refl _,by unfold maxLen;omega,by simp[ints,v1],List.take_of_length_le (by simp[ints,v1])⟩
  have HC:=zh (cloneI hr (by simp[ints,v1]) (fun u hu=>by simp[ints]at hu;obtain⟨b,_,rfl⟩:=hu;rfl) hvl)
  have HIN:Hid (∀ w' v',w'.ownsRow w.heap.size 2 1 v' (vlen g) (ints (p.vars nm))->∃ oa oc,v'=.slice oa (p.vars nm).length oc/\IntsAt w' (p.vars nm) oa):=fun w' v' ho=>by
   rw[<-v1]at ho
   obtain⟨oa,oc,e1,e2,_⟩:=uM ho
   exact⟨oa,oc,e1,e2⟩
  rw[hg]
  obtain⟨vn,hvn⟩:∃ vn,vn=vlen g:=⟨_,rfl⟩
  rw[<-hvn]at hlv' HC HIN
  clear h hlo m1 m2 hvm hfit hlv p1 p2 p3 hv hg v1 v2 v3 hgm hgn hr hvn hvl
  generalize bs nm=x at *
  generalize bs lo.m.name=y at *
  go_enter Tryz.func23,Tryz.ntmps23
  go_wp2_with fail
  refine HC.out.mono ?_
  rintro e w1 ⟨v',rfl,hb1,ho1⟩
  obtain⟨oa,oc,rfl,hi1⟩:=HIN.out w1 v' ho1
  have HB1:=zh hb1
  have HI1:=zh hi1
  clear hb1 ho1 hi1
  go_wp2_with fail
  go_ret2
  exact⟨HB1.out,oa,oc,rfl,HI1.out⟩
end Go.Proofs.YtibncofnnlbmcaaGreatDoor
