import Derived.Test.YtibncofnnlbmcaaGreatDoorKAe
import Derived.Deep.Fields
import Derived.Deep.Slices
import Derived.Deep.Strs
set_option maxRecDepth 100000
set_option maxHeartbeats 4000000
namespace Go.Proofs.YtibncofnnlbmcaaGreatDoor
open Go.RowKit Go.Maps
open Tp (Bs X S G Pr Pt Rs Rr Own)
structure Ac where
 what:Int
 text:Bs
 name:Bs
 proc:Bs
 args:List Int
def ActIs (P:List Pt) (a:Ac) (fuel:Nat) (r:Tp.Ans):Prop:=if a.what=1 then r=Tp.callW P a.name a.proc a.args fuel else match Tp.parse a.text with
 | .error er=>r=⟨P,Tp.no,0,some (er.1,some er.2)⟩
 | .ok m=>if a.what=2 then r=Tp.swapW ofS P m else r=Tp.loadW ofS P m fuel
def acells (a:Ac) (aa:Option Addr) (ac:Nat):Array Value:=#[.int .i64 a.what,.string (bs a.text),.string (bs a.name),.string (bs a.proc),.slice aa a.args.length ac]
def ActQ (X U:Nat->Prop) (c:Nat) (w:World) (wb:Nat) (r:Tp.Ans) (e:Ending) (w':World):Prop:=∃oa oc,e=.returned (.tuple #[.agg #[.int .i64 (r.e.way:Int),.slice oa r.e.out.length oc],.int .i64 r.n,.int .i64 (tellN r.err:Int)])/\AnsP X U c w wb r oa w'
theorem WZ.wide {X U:Nat->Prop}{c:Nat}{w w':World}{d:Nat}{P:List Pt}(h:WZ X U c w d P)(a:Below w.heap.size w w'){Y:Nat->Prop}(f:∀b,Y b->X b\/w.heap.size<=b):WZ Y U c w' d P:=h.other (fun b e _=>a.block b e) a.size f
theorem vh {X U:Nat->Prop}{c E:Nat}{w W w2 k s:World}{t:Nat}{r:Tp.Ans}{m:Option Addr}(f:Below w.heap.size w W)(K:w.heap.size<=E)(L:E<W.heap.size)(h:AnsP (fun b=>X b\/b=E) U c W t r m w2)(d:Below w2.heap.size w2 k)(a:Ext E k s):AnsP X U c w t r m s:=by
 obtain⟨⟨v,G,g⟩,y,A,B,l⟩:=h
 have O:=d.size
 have M:=g.size
 refine⟨⟨v,(G.on d).other (fun b j D=>a.block b j (fun e=>D (Or.inr e))) a.size (fun b q=>Or.inl (Or.inl q)),?_⟩,⟨fun i C=>?_⟩,A,B,fun x u=>by have:=l x u;have:=f.size;omega⟩
 ·have:=f.size
  refine⟨(((a.os.trans d.os).trans g.os).trans f.os),(((a.tape.trans d.tape).trans g.tape).trans f.tape),(((a.output.trans d.output).trans g.output).trans f.output),by have:=a.size;omega,fun b j F=>?_,fun b q=>?_⟩
  ·exact(((a.block b (by omega) (by omega)).trans (d.block b (by omega))).trans (g.block b (by omega) F)).trans (f.block b j)
  ·rcases g.more b q with z|z
   ·exact Or.inl z
   ·exact Or.inr (by omega)
 ·obtain⟨b,o,n,H,I⟩:=y.c i C
  have J:W.heap.size<=b:=l _ n
  have N:=a.size
  exact⟨b,o,n,by omega,(World.cell?_of_block (w:=k) (a.block b (by omega) (by omega))).trans ((d.cell (p:=⟨b,o+i,none⟩) H).trans I)⟩
theorem act_bad {X U:Nat->Prop}{c B:Nat}{w:World}{m fuel ac:Nat}{s:Option Addr}{P:List Pt}{a:Ac}(V:VarsC B w)(hB:B<=w.heap.size)(R:∀b,U b->B<=b)(S:∀b,X b->b<w.heap.size)(h:WZ X U c w m P)(_:c<=80)(b6:¬a.what=1){er:Nat×Nat}(T:Tp.parse a.text=.error er)(N:a.text.length<=100000) :
  Calls Tryz.prog 11 #[.pointer (some ⟨m,0,none⟩),.agg (acells a s ac),.int .i64 (fuel:Int)] w (ActQ X U c w m ⟨P,Tp.no,0,some (er.1,some er.2)⟩):=by
 obtain⟨W,i⟩:∃W,W=(w.alloc (.cells (acells a s ac) 31)).alloc (.cells #[.int .i64 0,.slice none 0 0] 43):=⟨_,rfl⟩
 have n:Below w.heap.size w W:=by rw[i];exact(zb _ _).alloc (by simp) _
 have M:W.heap.size=w.heap.size+2:=by rw[i];simp
 have f:W.heap[w.heap.size]?=some (.cells (acells a s ac) 31 (0,0)):=by rw[i];exact(Below.heap_alloc _ _ _ (by simp)).trans (zo _ _)
 have L:W.heap[w.heap.size+1]?=some (.cells #[.int .i64 0,.slice none 0 0] 43 (0,0)):=by rw[i];exact yj _ _ _
 have O:WZ (fun b=>X b\/b=w.heap.size+1) U c W m P:=h.wide n (fun b q=>q.imp id (fun z=>by omega))
 have J:∀b,X b\/b=w.heap.size+1->b<W.heap.size:=fun b q=>by
  rcases q with q|q
  ·have:=S b q;omega
  ·omega
 have I:∀b,U b->b<w.heap.size:=fun b q=>(h.lt q).1
 have o:=V.on' hB n
 unfold acells at *
 have a0:W.cell? ⟨w.heap.size,0,none⟩=some (.int .i64 a.what):=(za f).trans rfl
 have a1:W.cell? ⟨w.heap.size,1,none⟩=some (.string (bs a.text)):=(za f).trans rfl
 have a2:W.cell? ⟨w.heap.size,2,none⟩=some (.string (bs a.name)):=(za f).trans rfl
 have a3:W.cell? ⟨w.heap.size,3,none⟩=some (.string (bs a.proc)):=(za f).trans rfl
 have a4:W.cell? ⟨w.heap.size,4,none⟩=some (.slice s a.args.length ac):=(za f).trans rfl
 have b4:=zf f
 have G:=zh n
 have a5:=zh M
 have H:=zh L
 have b0:=zh f
 have a8:=zh O
 have b2:=zh J
 have b1:=zh I
 have a6:=zh o
 have HU:=zh R
 have Z:=zh (yD W a.text N o.mks o.lv)
 have HP:=zh T
 clear n M L f O J I o V R S h T N
 generalize a.what=wh at *
 go_enter Tryz.func11,Tryz.ntmps11
 go_upto_region 1 with fail
 rw[<-i]
 clear i
 go_wp2_with fail
 refine Z.out.mono ?_
 rintro e w2⟨x,E⟩
 unfold ParseP at E
 rw[HP.out]at E
 obtain⟨C,rfl,a9,D,h1⟩:=E
 unfold m0
 obtain⟨g,A⟩:∃g,g=w2.alloc (.cells #[.string ⟨#[]⟩,.slice none 0 0,.slice none 0 0,.slice none 0 0,.slice none 0 0] 36):=⟨_,rfl⟩
 have y:Below w2.heap.size w2 g:=by rw[A];exact zb _ _
 have u:Hid (Below W.heap.size W g):=x.trans (y.mono x.size)
 have Q:Hid (Calls Tryz.prog 25 #[.iface 117 (.pointer (some ⟨C,0,none⟩))] g fun e d=>e=.returned (.int .i64 (er.1:Int))/\Below g.heap.size g d):=tell_at (er.1:Int) C g (a6.out.on' (by have:=G.out.size;omega) u.out).et ((y.cell (p:=⟨C,0,none⟩) (zg D)).trans D)
 clear x y a9 D h1
 go_upto_region 5 with fail
 rw[<-A]
 clear A
 go_wp2_with fail
 refine Q.out.mono ?_
 rintro e d⟨rfl,K⟩
 have F:Hid (Below W.heap.size W d):=u.out.trans (K.mono u.out.size)
 have l:Hid (d.heap[w.heap.size+1]?=some (.cells #[.int .i64 0,.slice none 0 0] 43 (0,0))):=(F.out.block _ (zf H.out)).trans H.out
 clear K Q
 have e0:d.cell? ⟨w.heap.size+1,0,none⟩=some (.int .i64 0):=(za l.out).trans rfl
 have b3:d.cell? ⟨w.heap.size+1,1,none⟩=some (.slice none 0 0):=(za l.out).trans rfl
 have ez:∀j,d.frozen? ⟨w.heap.size+1,j,none⟩=false:=fun j=>zi l.out
 have b5:=zf l.out
 have t:=zu 1 (.slice none 0 0) (zu 0 (.int .i64 0) l.out)
 obtain⟨k,r⟩:∃k,k=(d.setCell ⟨w.heap.size+1,0,none⟩ (.int .i64 0)).setCell ⟨w.heap.size+1,1,none⟩ (.slice none 0 0):=⟨_,rfl⟩
 have f0:k.cell? ⟨w.heap.size+1,0,none⟩=some (.int .i64 0):=by rw[r];exact(za t).trans rfl
 have f1:k.cell? ⟨w.heap.size+1,1,none⟩=some (.slice none 0 0):=by rw[r];exact(za t).trans rfl
 have a7:Hid (Ext (w.heap.size+1) d k):=by rw[r];exact((Ext.refl _ _).set 0 _).set 1 _
 clear t
 have Y:Hid (AnsP X U c w m ⟨P,Tp.no,0,some (er.1,some er.2)⟩ none k):=vh G.out (by omega) (by have:=a5.out;omega) (yY a8.out F.out) (Below.refl _ _) a7.out
 go_wp2_with fail
 rw[<-r]
 exact bodyPost_ret (v:=.tuple #[.agg #[.int .i64 0,.slice none 0 0],.int .i64 0,.int .i64 (er.1:Int)]) (by simp[results,Tryz.results11,go_sem,f0,f1]) rfl (⟨none,0,rfl,Y.out⟩)
theorem act_call {X U:Nat->Prop}{c B:Nat}{w:World}{y fuel ac:Nat}{x:Option Addr}{P:List Pt}{a:Ac}(hv:VarsC B w)(hB:B<=w.heap.size)(hU:∀b,U b->B<=b)(hX:∀b,X b->b<w.heap.size)(h:WZ X U c w y P)(_:c<=80)(a8:a.what=1)(hf:fuel<=800000)(d3:a.name.length<=1000000)(b5:∀v∈a.args,Tp.I64 v)(a5:IntsAt w a.args x)(b6:a.args.length<=1000000) :
  Calls Tryz.prog 11 #[.pointer (some ⟨y,0,none⟩),.agg (acells a x ac),.int .i64 (fuel:Int)] w (ActQ X U c w y (Tp.callW P a.name a.proc a.args fuel)):=by
 obtain⟨r,O⟩:∃r,r=Tp.callW P a.name a.proc a.args fuel:=⟨_,rfl⟩
 obtain⟨W,m⟩:∃W,W=(w.alloc (.cells (acells a x ac) 31)).alloc (.cells #[.int .i64 0,.slice none 0 0] 43):=⟨_,rfl⟩
 have u:Below w.heap.size w W:=by rw[m];exact(zb _ _).alloc (by simp) _
 have b0:W.heap.size=w.heap.size+2:=by rw[m];simp
 have l:W.heap[w.heap.size]?=some (.cells (acells a x ac) 31 (0,0)):=by rw[m];exact(Below.heap_alloc _ _ _ (by simp)).trans (zo _ _)
 have a7:W.heap[w.heap.size+1]?=some (.cells #[.int .i64 0,.slice none 0 0] 43 (0,0)):=by rw[m];exact yj _ _ _
 have N:WZ (fun b=>X b\/b=w.heap.size+1) U c W y P:=h.wide u (fun b q=>q.imp id (fun z=>by omega))
 have T:∀b,X b\/b=w.heap.size+1->b<W.heap.size:=fun b q=>by
  rcases q with q|q
  ·have:=hX b q;omega
  ·omega
 have S:∀b,U b->b<w.heap.size:=fun b q=>(h.lt q).1
 have b4:=hv.on' hB u
 unfold acells at *
 have a0:W.cell? ⟨w.heap.size,0,none⟩=some (.int .i64 a.what):=(za l).trans rfl
 have a1:W.cell? ⟨w.heap.size,1,none⟩=some (.string (bs a.text)):=(za l).trans rfl
 have a2:W.cell? ⟨w.heap.size,2,none⟩=some (.string (bs a.name)):=(za l).trans rfl
 have a3:W.cell? ⟨w.heap.size,3,none⟩=some (.string (bs a.proc)):=(za l).trans rfl
 have a4:W.cell? ⟨w.heap.size,4,none⟩=some (.slice x a.args.length ac):=(za l).trans rfl
 have e1:=zf l
 have K:=zh u
 have R:=zh b0
 have Q:=zh a7
 have d5:=zh l
 have d7:=zh N
 have d6:=zh T
 have c9:=zh S
 have d0:=zh b4
 have HU:=zh hU
 have H:=zh (call_any (ac:=ac) (nm:=a.proc) N hf d3 b5 (a5.on u) b6)
 rw[<-O]at H
 clear u b0 a7 l N T S b4 hv hU hX h b5 a5
 rw[<-O]
 clear O
 rw[a8]at a0 m ⊢
 clear a8
 obtain⟨an,V⟩:∃an,an=a.args.length:=⟨_,rfl⟩
 rw[<-V]at a4 m H b6 ⊢
 clear V
 go_enter Tryz.func11,Tryz.ntmps11
 go_upto_region 1 with fail
 rw[<-m]
 clear m
 go_wp2_with fail
 refine H.out.mono ?_
 rintro e w2⟨f,i,ev,rfl,I,Z⟩
 obtain⟨g,M⟩:∃g,g=r.e.out.length:=⟨_,rfl⟩
 obtain⟨k,F⟩:∃k,k=w2.alloc (.cells #[.int .i64 (r.e.way:Int),.slice f g i] 43):=⟨_,rfl⟩
 have L:Below w2.heap.size w2 k:=by rw[F];exact zb _ _
 have p:k.heap[w2.heap.size]?=some (.cells #[.int .i64 (r.e.way:Int),.slice f g i] 43 (0,0)):=by rw[F];exact zo _ _
 obtain⟨U',d4,E⟩:=I.wz
 have C:w2.heap[w.heap.size+1]?=some (.cells #[.int .i64 0,.slice none 0 0] 43 (0,0)):=(E.block _ (zf Q.out) (fun q=>by have:=c9.out _ q;omega)).trans Q.out
 have Y:Below B W w2:=E.toBelow (by have:=K.out.size;omega) HU.out
 have b3:VarsC B k.drew:=((d0.out.on Y).on (L.mono (by have:=E.size;have:=K.out.size;omega))).on ((Below.refl _ _).drew)
 have HT:Hid (Calls Tryz.prog 25 #[ev] k.drew fun e d=>e=.returned (.int .i64 (tellN r.err:Int))/\(Below w2.heap.size w2 d/\d.heap[w.heap.size+1]?=some (.cells #[.int .i64 0,.slice none 0 0] 43 (0,0)))/\(d.cell? ⟨w2.heap.size,0,none⟩=some (.int .i64 (r.e.way:Int))/\d.cell? ⟨w2.heap.size,1,none⟩=some (.slice f g i))):=by
  have hd:Below w2.heap.size w2 k.drew:=L.drew
  refine(xG (b2:=0) Z (by have:=R.out;omega) (Ext.below hd) b3.et).mono ?_
  rintro e d⟨h1,h2⟩
  have t:Below w2.heap.size w2 d:=hd.trans (h2.mono hd.size)
  have c0:Below k.heap.size k d:=((Below.refl k.heap.size k).drew).trans h2
  have a6:=(c0.block _ (zf p)).trans p
  exact⟨h1,⟨t,(t.block _ (zf C)).trans C⟩,(za a6).trans rfl,(za a6).trans rfl⟩
 have c5:Hid (k.drew.cell? ⟨w2.heap.size,0,none⟩=some (.int .i64 (r.e.way:Int))/\k.drew.cell? ⟨w2.heap.size,1,none⟩=some (.slice f g i)):=⟨(za p).trans rfl,(za p).trans rfl⟩
 have d9:=zf p
 have A:Hid (w2.heap.size≠w.heap.size+1):=by have:=zf C;show _≠_;omega
 have b8:=zh I
 have c4:=zh M
 rw[<-M]
 clear L p d4 E C Y b3 Z I M H
 generalize b1:tellN r.err=tl at *
 have c8:=zh b1
 clear b1
 generalize a9:r.n=nn at *
 have c3:=zh a9
 clear a9
 generalize b7:r.e.way=wy at *
 have d1:=zh b7
 clear b7
 go_upto_region 3 with fail
 rw[<-F]
 clear F a0 a1 a2 a3 a4
 go_region_held3 (fun w'=>w'.cell? ⟨w2.heap.size,0,none⟩=some (.int .i64 (wy:Int))/\w'.cell? ⟨w2.heap.size,1,none⟩=some (.slice f g i)) (with_reducible (first|exact c7.out|exact c6.out|exact c5.out)) (first|(go_at_call 25;refine HT.out.mono ?_;rintro e d ⟨rfl,⟨t,o⟩,D⟩;have c1:=zh t;have c2:=zh o;have c6:=zh D;have e0:d.cell? ⟨w.heap.size+1,0,none⟩=some (.int .i64 0):=(za o).trans rfl;have d8:d.cell? ⟨w.heap.size+1,1,none⟩=some (.slice none 0 0):=(za o).trans rfl;have ez:∀j,d.frozen? ⟨w.heap.size+1,j,none⟩=false:=fun j=>zi o;have e2:=zf o;have c7:Hid (((d.setCell ⟨w.heap.size+1,0,none⟩ (.int .i64 (wy:Int))).setCell ⟨w.heap.size+1,1,none⟩ (.slice f g i)).cell? ⟨w2.heap.size,0,none⟩=some (.int .i64 (wy:Int))/\((d.setCell ⟨w.heap.size+1,0,none⟩ (.int .i64 (wy:Int))).setCell ⟨w.heap.size+1,1,none⟩ (.slice f g i)).cell? ⟨w2.heap.size,1,none⟩=some (.slice f g i)):=⟨(World.cell?_of_block (w:=d) ((zx _ A.out).trans (zx _ A.out))).trans D.1,(World.cell?_of_block (w:=d) ((zx _ A.out).trans (zx _ A.out))).trans D.2⟩;clear t o D))
 have J:=zu 1 (.slice f g i) (zu 0 (.int .i64 (wy:Int)) c2.out)
 obtain⟨s,G⟩:∃s,s=(d.setCell ⟨w.heap.size+1,0,none⟩ (.int .i64 (wy:Int))).setCell ⟨w.heap.size+1,1,none⟩ (.slice f g i):=⟨_,rfl⟩
 have f0:s.cell? ⟨w.heap.size+1,0,none⟩=some (.int .i64 (wy:Int)):=by rw[G];exact(za J).trans rfl
 have f1:s.cell? ⟨w.heap.size+1,1,none⟩=some (.slice f g i):=by rw[G];exact(za J).trans rfl
 have d2:Hid (Ext (w.heap.size+1) d s):=by rw[G];exact((Ext.refl _ _).set 0 _).set 1 _
 clear J
 have b9:Hid (AnsP X U c w y r f s):=vh K.out (by omega) (by have:=R.out;omega) b8.out c1.out d2.out
 go_wp2_with fail
 rw[<-G]
 exact bodyPost_ret (v:=.tuple #[.agg #[.int .i64 (wy:Int),.slice f g i],.int .i64 nn,.int .i64 (tl:Int)]) (by simp[results,Tryz.results11,go_sem,f0,f1]) rfl (⟨f,i,by rw[d1.out,c3.out,c8.out,<-c4.out],b9.out⟩)
theorem VM.mdb {B:Nat}{m:Tp.M}{v:Value}{w:World}(h:VM B m v w):∃f d i a g e j c,v=.agg (mcells (bs m.name) (.slice f m.imports.length g) (.slice d m.vars.length e) (.slice i m.procs.length j) (.slice a m.body.length c))/\MD w (fun b=>B<=b) m f d i a g e j c/\MB w w.heap.size m f d i a g e j c:=by
 obtain⟨f,d,i,a,g,e,j,c,n,l,o,p,q,r,s,t,u⟩:=h
 have k:MD w (fun b=>B<=b) m f d i a g e j c:=⟨p,q,⟨n,r,s⟩,⟨l,t,u⟩⟩
 exact⟨f,d,i,a,g,e,j,c,o,k,k.mb (fun b _ x=>x)⟩
theorem act_swap {X U:Nat->Prop}{c B:Nat}{w:World}{s fuel ac:Nat}{Z:Option Addr}{P:List Pt}{a:Ac}(H:VarsC B w)(hB:B<=w.heap.size)(hU:∀b,U b->B<=b)(hX:∀b,X b->b<w.heap.size)(h:WZ X U c w s P)(hc:c<=80)(d2:a.what=2){m:Tp.M}(hp:Tp.parse a.text=.ok m)(R:a.text.length<=1000) :
  Calls Tryz.prog 11 #[.pointer (some ⟨s,0,none⟩),.agg (acells a Z ac),.int .i64 (fuel:Int)] w (ActQ X U c w s (Tp.swapW ofS P m)):=by
 obtain⟨r,hr⟩:∃r,r=Tp.swapW ofS P m:=⟨_,rfl⟩
 have d4:r.e=Tp.no/\r.n=0:=by
  rw[hr]
  unfold Tp.swapW
  split
  ·exact⟨rfl,rfl⟩
  ·split
   ·exact⟨rfl,rfl⟩
   ·split
    ·exact⟨rfl,rfl⟩
    ·split
     ·exact⟨rfl,rfl⟩
     ·exact⟨rfl,rfl⟩
 obtain⟨d8,f5⟩:=Tp.parse_wm hp
 have e4:Tp.nM m<=9000:=by omega
 obtain⟨W,l⟩:∃W,W=(w.alloc (.cells (acells a Z ac) 31)).alloc (.cells #[.int .i64 0,.slice none 0 0] 43):=⟨_,rfl⟩
 have O:Below w.heap.size w W:=by rw[l];exact(zb _ _).alloc (by simp) _
 have d5:W.heap.size=w.heap.size+2:=by rw[l];simp
 have k:W.heap[w.heap.size]?=some (.cells (acells a Z ac) 31 (0,0)):=by rw[l];exact(Below.heap_alloc _ _ _ (by simp)).trans (zo _ _)
 have c8:W.heap[w.heap.size+1]?=some (.cells #[.int .i64 0,.slice none 0 0] 43 (0,0)):=by rw[l];exact yj _ _ _
 have e1:WZ (fun b=>X b\/b=w.heap.size+1) U c W s P:=h.wide O (fun b q=>q.imp id (fun z=>by omega))
 have c2:∀b,X b\/b=w.heap.size+1->b<W.heap.size:=fun b q=>by
  rcases q with q|q
  ·have:=hX b q;omega
  ·omega
 have c0:∀b,U b->b<w.heap.size:=fun b q=>(h.lt q).1
 have S:=H.on' hB O
 unfold acells at *
 have Y:W.cell? ⟨w.heap.size,0,none⟩=some (.int .i64 a.what):=(za k).trans rfl
 have a1:W.cell? ⟨w.heap.size,1,none⟩=some (.string (bs a.text)):=(za k).trans rfl
 have a2:W.cell? ⟨w.heap.size,2,none⟩=some (.string (bs a.name)):=(za k).trans rfl
 have a3:W.cell? ⟨w.heap.size,3,none⟩=some (.string (bs a.proc)):=(za k).trans rfl
 have a4:W.cell? ⟨w.heap.size,4,none⟩=some (.slice Z a.args.length ac):=(za k).trans rfl
 have f4:=zf k
 have a6:=zh O
 have b6:=zh d5
 have a7:=zh c8
 have g3:=zh k
 have f3:=zh e1
 have b8:=zh c2
 have b7:=zh c0
 have e7:=zh S
 have HU:=zh hU
 have b5:=zh (yD W a.text (by omega) S.mks S.lv)
 have HP:=zh hp
 have HR:=zh hr
 have A:=zh d4
 have e9:=zh d8
 clear O d5 c8 k e1 c2 c0 S H hU hX h hp R d4 d8 f5
 rw[<-hr]
 clear hr
 rw[d2]at Y l ⊢
 clear d2
 obtain⟨wh,b1⟩:∃wh:Int,wh=2:=⟨_,rfl⟩
 have e8:=zh b1
 rw[<-b1]at Y l ⊢
 have f6:¬wh=1:=by omega
 clear b1
 go_enter Tryz.func11,Tryz.ntmps11
 go_upto_region 1 with fail
 rw[<-l]
 clear l
 go_wp2_with fail
 refine b5.out.mono ?_
 rintro e w2⟨a8,hq⟩
 unfold ParseP at hq
 rw[HP.out]at hq
 obtain⟨v,rfl,d6⟩:=hq
 obtain⟨I,F,K,D,J,G,L,E,rfl,d0,c9⟩:=d6.mdb
 obtain⟨d,C⟩:∃d,d=w2.alloc (.cells (mcells (bs m.name) (.slice I m.imports.length J) (.slice F m.vars.length G) (.slice K m.procs.length L) (.slice D m.body.length E)) 36):=⟨_,rfl⟩
 have N:Below w2.heap.size w2 d:=by rw[C];exact zb _ _
 have g:d.heap[w2.heap.size]?=some (.cells (mcells (bs m.name) (.slice I m.imports.length J) (.slice F m.vars.length G) (.slice K m.procs.length L) (.slice D m.body.length E)) 36 (0,0)):=by rw[C];exact zo _ _
 have f:Hid (Below W.heap.size W d):=a8.trans (N.mono a8.size)
 have d9:=f3.out.on f.out
 have g7:=f.out.size
 have b3:MD d (fun b=>W.heap.size<=b) m I F K D J G L E:=d0.mono (fun b hb hl=>⟨N.block b hl,hb⟩)
 have hD:∀b,W.heap.size<=b->b<d.heap.size->¬(X b\/b=w.heap.size+1)/\¬U b:=fun b hb _=>⟨fun q=>by have:=b8.out b q;omega,fun q=>by have:=b7.out b q;have:=b6.out;omega⟩
 have c1:∀b,X b\/b=w.heap.size+1->b<d.heap.size:=fun b q=>by have:=b8.out b q;omega
 have HC:Hid (Calls Tryz.prog 18 #[.pointer (some ⟨s,0,none⟩),.agg (mcells (bs m.name) (.slice I m.imports.length J) (.slice F m.vars.length G) (.slice K m.procs.length L) (.slice D m.body.length E))] d (SwapQ (fun b=>X b\/b=w.heap.size+1) U c d s r)):=by
  rw[HR.out]
  exact kI d9 c1 (by omega) (c9.up N) b3 hD e9.out e4
 unfold mcells at *
 obtain⟨mn,d1⟩:∃mn,mn=bs m.name:=⟨_,rfl⟩
 obtain⟨il,c7⟩:∃il,il=m.imports.length:=⟨_,rfl⟩
 obtain⟨gl,c6⟩:∃gl,gl=m.vars.length:=⟨_,rfl⟩
 obtain⟨pl,d3⟩:∃pl,pl=m.procs.length:=⟨_,rfl⟩
 obtain⟨bl,c4⟩:∃bl,bl=m.body.length:=⟨_,rfl⟩
 rw[<-d1,<-c7,<-c6,<-d3,<-c4]at C g HC ⊢
 clear d1 c7 c6 d3 c4
 have f7:d.cell? ⟨w2.heap.size,0,none⟩=some (.string mn):=(za g).trans rfl
 have f8:d.cell? ⟨w2.heap.size,1,none⟩=some (.slice I il J):=(za g).trans rfl
 have f9:d.cell? ⟨w2.heap.size,2,none⟩=some (.slice F gl G):=(za g).trans rfl
 have g0:d.cell? ⟨w2.heap.size,3,none⟩=some (.slice K pl L):=(za g).trans rfl
 have g1:d.cell? ⟨w2.heap.size,4,none⟩=some (.slice D bl E):=(za g).trans rfl
 have g6:=zf g
 have b0:d.cell? ⟨w.heap.size,0,none⟩=some (.int .i64 wh):=(f.out.cell (p:=⟨w.heap.size,0,none⟩) f4).trans Y
 have g2:=zg b0
 clear a8 N g d6 d0 c9 d9 b3 hD c1 Y a1 a2 a3 a4 b5
 go_upto_region 5 with fail
 rw[<-C]
 clear C
 have d7:=e8.out
 rw[d7]at b0
 clear d7 f6
 go_wp2_with fail
 refine HC.out.mono ?_
 rintro e t⟨ev,rfl,V,c5⟩
 obtain⟨U',V,Q⟩:=V
 have b9:t.heap[w.heap.size+1]?=some (.cells #[.int .i64 0,.slice none 0 0] 43 (0,0)):=((Q.block _ (by have:=zf a7.out;have:=f.out.size;omega) (fun q=>by have:=b7.out _ q;omega)).trans (f.out.block _ (zf a7.out))).trans a7.out
 have c3:Below B W t:=(f.out.mono (by have:=a6.out.size;omega)).trans (Q.toBelow (by have:=a6.out.size;have:=f.out.size;omega) HU.out)
 have HT:Hid (Calls Tryz.prog 25 #[ev] t fun e o=>e=.returned (.int .i64 (tellN r.err:Int))/\Below t.heap.size t o):=xG (b2:=0) c5 (by omega) (Ext.refl _ _) (e7.out.on c3).et
 have e2:Hid (AnsP (fun b=>X b\/b=w.heap.size+1) U c W s r none t):=by
  refine⟨⟨U',V,Tr.ahead f.out Q⟩,⟨fun i hi=>?_⟩,fun v H=>?_,?_,fun x hx=>(by cases hx)⟩
  ·rw[A.out.1]at hi;cases hi
  ·rw[A.out.1]at H;cases H
  ·rw[A.out.1];show (0:Nat)<=200;omega
 have b4:=zh b9
 clear V Q c5 b9 c3 HC f7 f8 f9 g0 g1 b0
 generalize R:tellN r.err=tl at *
 have e6:=zh R
 clear R
 go_wp2_with fail
 refine HT.out.mono ?_
 rintro e o⟨rfl,a9⟩
 have e5:=zh a9
 have y:Hid (o.heap[w.heap.size+1]?=some (.cells #[.int .i64 0,.slice none 0 0] 43 (0,0))):=(a9.block _ (zf b4.out)).trans b4.out
 clear a9 HT
 have e0:o.cell? ⟨w.heap.size+1,0,none⟩=some (.int .i64 0):=(za y.out).trans rfl
 have g4:o.cell? ⟨w.heap.size+1,1,none⟩=some (.slice none 0 0):=(za y.out).trans rfl
 have ez:∀j,o.frozen? ⟨w.heap.size+1,j,none⟩=false:=fun j=>zi y.out
 have g5:=zf y.out
 have a5:=zu 1 (.slice none 0 0) (zu 0 (.int .i64 0) y.out)
 obtain⟨u,T⟩:∃u,u=(o.setCell ⟨w.heap.size+1,0,none⟩ (.int .i64 0)).setCell ⟨w.heap.size+1,1,none⟩ (.slice none 0 0):=⟨_,rfl⟩
 have f0:u.cell? ⟨w.heap.size+1,0,none⟩=some (.int .i64 0):=by rw[T];exact(za a5).trans rfl
 have f1:u.cell? ⟨w.heap.size+1,1,none⟩=some (.slice none 0 0):=by rw[T];exact(za a5).trans rfl
 have f2:Hid (Ext (w.heap.size+1) o u):=by rw[T];exact((Ext.refl _ _).set 0 _).set 1 _
 clear a5
 have e3:Hid (AnsP X U c w s r none u):=vh a6.out (by omega) (by have:=b6.out;omega) e2.out e5.out f2.out
 go_wp2_with fail
 rw[<-T]
 exact bodyPost_ret (v:=.tuple #[.agg #[.int .i64 0,.slice none 0 0],.int .i64 0,.int .i64 (tl:Int)]) (by simp[results,Tryz.results11,go_sem,f0,f1]) rfl (⟨none,0,by rw[A.out.1,A.out.2,e6.out];rfl,e3.out⟩)
theorem act_load {X U:Nat->Prop}{c B:Nat}{w:World}{y fuel ac:Nat}{aa:Option Addr}{P:List Pt}{a:Ac}(hv:VarsC B w)(hB:B<=w.heap.size)(hU:∀b,U b->B<=b)(hX:∀b,X b->b<w.heap.size)(h:WZ X U c w y P)(hc:c<=80)(i2:¬a.what=1)(i3:¬a.what=2){m:Tp.M}(hp:Tp.parse a.text=.ok m)(a7:a.text.length<=1000)(hf:fuel<=800000) :
  Calls Tryz.prog 11 #[.pointer (some ⟨y,0,none⟩),.agg (acells a aa ac),.int .i64 (fuel:Int)] w (ActQ X U c w y (Tp.loadW ofS P m fuel)):=by
 obtain⟨r,hr⟩:∃r,r=Tp.loadW ofS P m fuel:=⟨_,rfl⟩
 have d7:r.n=0:=by
  rw[hr]
  unfold Tp.loadW
  split
  ·rfl
  ·split
   ·rfl
   ·split
    ·rfl
    ·rfl
 obtain⟨e2,g8⟩:=Tp.parse_wm hp
 have f3:Tp.nM m<=9000:=by omega
 obtain⟨W,E⟩:∃W,W=(w.alloc (.cells (acells a aa ac) 31)).alloc (.cells #[.int .i64 0,.slice none 0 0] 43):=⟨_,rfl⟩
 have a5:Below w.heap.size w W:=by rw[E];exact(zb _ _).alloc (by simp) _
 have d8:W.heap.size=w.heap.size+2:=by rw[E];simp
 have u:W.heap[w.heap.size]?=some (.cells (acells a aa ac) 31 (0,0)):=by rw[E];exact(Below.heap_alloc _ _ _ (by simp)).trans (zo _ _)
 have d2:W.heap[w.heap.size+1]?=some (.cells #[.int .i64 0,.slice none 0 0] 43 (0,0)):=by rw[E];exact yj _ _ _
 have e6:WZ (fun b=>X b\/b=w.heap.size+1) U c W y P:=h.wide a5 (fun b q=>q.imp id (fun z=>by omega))
 have c5:∀b,X b\/b=w.heap.size+1->b<W.heap.size:=fun b q=>by
  rcases q with q|q
  ·have:=hX b q;omega
  ·omega
 have c3:∀b,U b->b<w.heap.size:=fun b q=>(h.lt q).1
 have a8:=hv.on' hB a5
 unfold acells at *
 have a0:W.cell? ⟨w.heap.size,0,none⟩=some (.int .i64 a.what):=(za u).trans rfl
 have a1:W.cell? ⟨w.heap.size,1,none⟩=some (.string (bs a.text)):=(za u).trans rfl
 have a2:W.cell? ⟨w.heap.size,2,none⟩=some (.string (bs a.name)):=(za u).trans rfl
 have a3:W.cell? ⟨w.heap.size,3,none⟩=some (.string (bs a.proc)):=(za u).trans rfl
 have a4:W.cell? ⟨w.heap.size,4,none⟩=some (.slice aa a.args.length ac):=(za u).trans rfl
 have g7:=zf u
 have T:=zh a5
 have c0:=zh d8
 have b4:=zh d2
 have h7:=zh u
 have g6:=zh e6
 have c2:=zh c5
 have c1:=zh c3
 have g2:=zh a8
 have HU:=zh hU
 have b9:=zh (yD W a.text (by omega) a8.mks a8.lv)
 have HP:=zh hp
 have HR:=zh hr
 have f7:=zh d7
 have g3:=zh e2
 clear a5 d8 d2 u e6 c5 c3 a8 hv hU hX h hp a7 d7 e2 g8
 rw[<-hr]
 clear hr
 generalize a.what=wh at *
 go_enter Tryz.func11,Tryz.ntmps11
 go_upto_region 1 with fail
 rw[<-E]
 clear E
 go_wp2_with fail
 refine b9.out.mono ?_
 rintro e w2⟨b5,hq⟩
 unfold ParseP at hq
 rw[HP.out]at hq
 obtain⟨v,rfl,e1⟩:=hq
 obtain⟨O,L,R,J,Q,N,S,K,rfl,d4,d3⟩:=e1.mdb
 obtain⟨g,I⟩:∃g,g=w2.alloc (.cells (mcells (bs m.name) (.slice O m.imports.length Q) (.slice L m.vars.length N) (.slice R m.procs.length S) (.slice J m.body.length K)) 36):=⟨_,rfl⟩
 have Z:Below w2.heap.size w2 g:=by rw[I];exact zb _ _
 have t:g.heap[w2.heap.size]?=some (.cells (mcells (bs m.name) (.slice O m.imports.length Q) (.slice L m.vars.length N) (.slice R m.procs.length S) (.slice J m.body.length K)) 36 (0,0)):=by rw[I];exact zo _ _
 have s:Hid (Below W.heap.size W g):=b5.trans (Z.mono b5.size)
 have e4:=g6.out.on s.out
 have i4:=s.out.size
 have b8:MD g (fun b=>W.heap.size<=b) m O L R J Q N S K:=d4.mono (fun b hb hl=>⟨Z.block b hl,hb⟩)
 have hD:∀b,W.heap.size<=b->b<g.heap.size->¬(X b\/b=w.heap.size+1)/\¬U b:=fun b hb _=>⟨fun q=>by have:=c2.out b q;omega,fun q=>by have:=c1.out b q;have:=c0.out;omega⟩
 have c4:∀b,X b\/b=w.heap.size+1->b<g.heap.size:=fun b q=>by have:=c2.out b q;omega
 have HC:Hid (Calls Tryz.prog 17 #[.pointer (some ⟨y,0,none⟩),.agg (mcells (bs m.name) (.slice O m.imports.length Q) (.slice L m.vars.length N) (.slice R m.procs.length S) (.slice J m.body.length K)),.int .i64 (fuel:Int)] g (LoadQ (fun b=>X b\/b=w.heap.size+1) U c g y r)):=by
  rw[HR.out]
  exact vT e4 c4 (by omega) (d3.up Z) b8 hD g3.out f3 hf
 unfold mcells at *
 obtain⟨mn,d5⟩:∃mn,mn=bs m.name:=⟨_,rfl⟩
 obtain⟨il,d0⟩:∃il,il=m.imports.length:=⟨_,rfl⟩
 obtain⟨gl,c9⟩:∃gl,gl=m.vars.length:=⟨_,rfl⟩
 obtain⟨pl,d6⟩:∃pl,pl=m.procs.length:=⟨_,rfl⟩
 obtain⟨bl,c7⟩:∃bl,bl=m.body.length:=⟨_,rfl⟩
 rw[<-d5,<-d0,<-c9,<-d6,<-c7]at I t HC ⊢
 clear d5 d0 c9 d6 c7
 have g9:g.cell? ⟨w2.heap.size,0,none⟩=some (.string mn):=(za t).trans rfl
 have h0:g.cell? ⟨w2.heap.size,1,none⟩=some (.slice O il Q):=(za t).trans rfl
 have h3:g.cell? ⟨w2.heap.size,2,none⟩=some (.slice L gl N):=(za t).trans rfl
 have h4:g.cell? ⟨w2.heap.size,3,none⟩=some (.slice R pl S):=(za t).trans rfl
 have h5:g.cell? ⟨w2.heap.size,4,none⟩=some (.slice J bl K):=(za t).trans rfl
 have i1:=zf t
 have b0:g.cell? ⟨w.heap.size,0,none⟩=some (.int .i64 wh):=(s.out.cell (p:=⟨w.heap.size,0,none⟩) g7).trans a0
 have h6:=zg b0
 clear b5 Z t e1 d4 d3 e4 b8 hD c4 a0 a1 a2 a3 a4 b9
 go_upto_region 5 with fail
 rw[<-I]
 clear I
 go_wp2_with fail
 refine HC.out.mono ?_
 rintro e d⟨i,l,ev,rfl,f2,A,c8⟩
 obtain⟨k,b7⟩:∃k,k=r.e.out.length:=⟨_,rfl⟩
 obtain⟨U',e5,H⟩:=A.wz
 obtain⟨o,a9⟩:∃o,o=d.alloc (.cells #[.int .i64 (r.e.way:Int),.slice i k l] 43):=⟨_,rfl⟩
 have b6:Below d.heap.size d o:=by rw[a9];exact zb _ _
 have D:o.heap[d.heap.size]?=some (.cells #[.int .i64 (r.e.way:Int),.slice i k l] 43 (0,0)):=by rw[a9];exact zo _ _
 have Y:d.heap[w.heap.size+1]?=some (.cells #[.int .i64 0,.slice none 0 0] 43 (0,0)):=((H.block _ (by have:=zf b4.out;have:=s.out.size;omega) (fun q=>by have:=c1.out _ q;omega)).trans (s.out.block _ (zf b4.out))).trans b4.out
 have c6:Below B W d:=(s.out.mono (by have:=T.out.size;omega)).trans (H.toBelow (by have:=T.out.size;have:=s.out.size;omega) HU.out)
 have d9:VarsC B o.drew:=((g2.out.on c6).on (b6.mono (by have:=H.size;have:=s.out.size;have:=T.out.size;omega))).on ((Below.refl _ _).drew)
 have HT:Hid (Calls Tryz.prog 25 #[ev] o.drew fun e f=>e=.returned (.int .i64 (tellN r.err:Int))/\(Below d.heap.size d f/\f.heap[w.heap.size+1]?=some (.cells #[.int .i64 0,.slice none 0 0] 43 (0,0)))/\(f.cell? ⟨d.heap.size,0,none⟩=some (.int .i64 (r.e.way:Int))/\f.cell? ⟨d.heap.size,1,none⟩=some (.slice i k l))):=by
  have hd:Below d.heap.size d o.drew:=b6.drew
  refine(xG (b2:=0) c8 (by omega) (Ext.below hd) d9.et).mono ?_
  rintro e f⟨h1,h2⟩
  have G:Below d.heap.size d f:=hd.trans (h2.mono hd.size)
  have e9:Below o.heap.size o f:=((Below.refl o.heap.size o).drew).trans h2
  have d1:=(e9.block _ (zf D)).trans D
  exact⟨h1,⟨G,(G.block _ (zf Y)).trans Y⟩,(za d1).trans rfl,(za d1).trans rfl⟩
 have f8:Hid (o.drew.cell? ⟨d.heap.size,0,none⟩=some (.int .i64 (r.e.way:Int))/\o.drew.cell? ⟨d.heap.size,1,none⟩=some (.slice i k l)):=⟨(za D).trans rfl,(za D).trans rfl⟩
 have h9:=zf D
 have V:Hid (d.heap.size≠w.heap.size+1):=by have:=zf Y;show _≠_;omega
 have e7:Hid (AnsP (fun b=>X b\/b=w.heap.size+1) U c W y r i d):=⟨⟨U',e5,Tr.ahead s.out H⟩,A.it,A.oi,A.ol,fun x hx=>by have:=A.far x hx;have:=s.out.size;omega⟩
 have f6:=zh b7
 rw[<-b7]
 clear b6 D e5 H Y c6 d9 c8 A b7 HC f2 g9 h0 h3 h4 h5 b0
 generalize a7:tellN r.err=tl at *
 have g1:=zh a7
 clear a7
 generalize e3:r.e.way=wy at *
 have g4:=zh e3
 clear e3
 go_upto_region 10 with fail
 rw[<-a9]
 clear a9
 go_region_held3 (fun w'=>w'.cell? ⟨d.heap.size,0,none⟩=some (.int .i64 (wy:Int))/\w'.cell? ⟨d.heap.size,1,none⟩=some (.slice i k l)) (with_reducible (first|exact g0.out|exact f9.out|exact f8.out)) (first|(go_at_call 25;refine HT.out.mono ?_;rintro e f ⟨rfl,⟨G,C⟩,a6⟩;have f4:=zh G;have f5:=zh C;have f9:=zh a6;have e0:f.cell? ⟨w.heap.size+1,0,none⟩=some (.int .i64 0):=(za C).trans rfl;have h8:f.cell? ⟨w.heap.size+1,1,none⟩=some (.slice none 0 0):=(za C).trans rfl;have ez:∀j,f.frozen? ⟨w.heap.size+1,j,none⟩=false:=fun j=>zi C;have i0:=zf C;have g0:Hid (((f.setCell ⟨w.heap.size+1,0,none⟩ (.int .i64 (wy:Int))).setCell ⟨w.heap.size+1,1,none⟩ (.slice i k l)).cell? ⟨d.heap.size,0,none⟩=some (.int .i64 (wy:Int))/\((f.setCell ⟨w.heap.size+1,0,none⟩ (.int .i64 (wy:Int))).setCell ⟨w.heap.size+1,1,none⟩ (.slice i k l)).cell? ⟨d.heap.size,1,none⟩=some (.slice i k l)):=⟨(World.cell?_of_block (w:=f) ((zx _ V.out).trans (zx _ V.out))).trans a6.1,(World.cell?_of_block (w:=f) ((zx _ V.out).trans (zx _ V.out))).trans a6.2⟩;clear G C a6))
 have b3:=zu 1 (.slice i k l) (zu 0 (.int .i64 (wy:Int)) f5.out)
 obtain⟨F,b1⟩:∃F,F=(f.setCell ⟨w.heap.size+1,0,none⟩ (.int .i64 (wy:Int))).setCell ⟨w.heap.size+1,1,none⟩ (.slice i k l):=⟨_,rfl⟩
 have f0:F.cell? ⟨w.heap.size+1,0,none⟩=some (.int .i64 (wy:Int)):=by rw[b1];exact(za b3).trans rfl
 have f1:F.cell? ⟨w.heap.size+1,1,none⟩=some (.slice i k l):=by rw[b1];exact(za b3).trans rfl
 have g5:Hid (Ext (w.heap.size+1) f F):=by rw[b1];exact((Ext.refl _ _).set 0 _).set 1 _
 clear b3
 have e8:Hid (AnsP X U c w y r i F):=vh T.out (by omega) (by have:=c0.out;omega) e7.out f4.out g5.out
 go_wp2_with fail
 rw[<-b1]
 exact bodyPost_ret (v:=.tuple #[.agg #[.int .i64 (wy:Int),.slice i k l],.int .i64 0,.int .i64 (tl:Int)]) (by simp[results,Tryz.results11,go_sem,f0,f1]) rfl (⟨i,l,by rw[g4.out,f7.out,g1.out,<-f6.out],e8.out⟩)
theorem act_post {X U:Nat->Prop}{c B:Nat}{w:World}{o fuel ac:Nat}{s:Option Addr}{P:List Pt}{a:Ac}(n:VarsC B w)(i:B<=w.heap.size)(j:∀b,U b->B<=b)(k:∀b,X b->b<w.heap.size)(h:WZ X U c w o P)(l:c<=80)(t:fuel<=800000)(p:a.text.length<=1000)(x:a.name.length<=1000000)(y:∀v∈a.args,Tp.I64 v)(u:IntsAt w a.args s)(z:a.args.length<=1000000) :
  Calls Tryz.prog 11 #[.pointer (some ⟨o,0,none⟩),.agg (acells a s ac),.int .i64 (fuel:Int)] w fun e w'=>∃r,ActIs P a fuel r/\ActQ X U c w o r e w':=by
 by_cases d:a.what=1
 ·exact(act_call n i j k h l d t x y u z).mono (fun e w' q=>⟨_,by unfold ActIs;rw[if_pos d],q⟩)
 ·cases f:Tp.parse a.text with
  |error er=>exact(act_bad n i j k h l d f (by omega)).mono (fun e w' q=>⟨_,by unfold ActIs;rw[if_neg d,f],q⟩)
  |ok m =>
   by_cases g:a.what=2
   ·exact(act_swap n i j k h l g f p).mono (fun e w' q=>⟨_,by unfold ActIs;rw[if_neg d,f];simp[g],q⟩)
   ·exact(act_load n i j k h l d g f p t).mono (fun e w' q=>⟨_,by unfold ActIs;rw[if_neg d,f];simp[g],q⟩)
end Go.Proofs.YtibncofnnlbmcaaGreatDoor
namespace Go.Proofs.YtibncofnnlbmcaaGreatDoor
open Go.RowKit
open Tp (Bs)
open Go.Deep
structure ActAt (w:World) (l:List Ac) (a:Option Addr):Prop where
 c:∀i (h:i<l.length),∃b o aa ac,a=some ⟨b,o,none⟩/\(∀j,j<5->w.cell? ⟨b,o+(i*5+j),none⟩=(acells l[i] aa ac)[j]?)/\IntsAt w l[i].args aa/\∀v∈l[i].args,Tp.I64 v
theorem ActAt.on {w w':World}{l:List Ac}{a:Option Addr}(h:ActAt w l a)(k:Below w.heap.size w w'):ActAt w' l a:=by
 refine⟨fun i n=>?_⟩
 obtain⟨b,o,e,ac,f,d,g,m⟩:=h.c i n
 have r:b<w.heap.size:=zg (d 0 (by omega))
 exact⟨b,o,e,ac,f,fun j q=>(k.cell (p:=⟨b,o+(i*5+j),none⟩) r).trans (d j q),g.on k,m⟩
section
variable {H:Type} {enc:TypeId×Value->H} {P:Program} {w:World} {base:Nat} {spare:Nat->Bool} {held:Bool}
theorem uq {α:Type}{P:Nat->α->Prop}:∀(n:Nat),(∀i,i<n->∃x,P i x)->∃l:List α,l.length=n/\∀i (h:i<l.length),P i l[i]:=by
 intro n
 induction n with
 |zero=>intro _;exact⟨[],rfl,fun i h=>by simp at h⟩
 |succ n ih =>
  intro h
  obtain⟨l,b,d⟩:=ih (fun i c=>h i (by omega))
  obtain⟨x,e⟩:=h n (by omega)
  refine⟨l++[x],by simp[b],fun i c=>?_⟩
  by_cases a:i<l.length
  ·rw[List.getElem_append_left a];exact d i a
  ·have:i=l.length:=by simp at c;omega
   subst this
   rw[List.getElem_append_right (by omega)]
   simp only[Nat.sub_self,List.getElem_cons_zero]
   rw[b];exact e
theorem open_rows {t e:TypeId}{fs:Array Field}{fuel:Nat}{cs:List Value}{x:DataW H×List MemPlace}(Q:P.underlying t=some (.slice e))(L:P.underlying e=some (.struct fs))
  (B:∀(i:Nat) (f:Field),fs[i]?=some f->f.offset=i/\P.cellsOf f.type=1)(s:P.cellsOf e=fs.size)(C:0<fs.size)(h:DataW.trod enc P w base spare held fuel t cs=some x) :
  ∃(a:Option Addr) (len cap:Nat),cs=[.slice a len cap]/\∀i,i<len->∃(b o n:Nat) (V:Nat->Value),a=some ⟨b,o,none⟩ /\
   ∀(j:Nat) (f:Field),fs[j]?=some f->w.cell? ⟨b,o+(i*fs.size+j),none⟩=some (V j)/\∃y,DataW.trod enc P w base spare held n f.type [V j]=some y:=by
 rcases open_slice Q h with⟨rfl,_⟩|⟨a,len,cap,m,n,D,Pl,rfl,hb,hlc,hcm,hm,_,hall⟩
 ·exact⟨none,0,0,rfl,fun i N=>by omega⟩
 ·refine⟨some a,len,cap,rfl,fun i N=>?_⟩
  have F:i<m:=by rw[hm];split<;>omega
  have p:a.spot=none:=by
   obtain⟨T,I,W⟩:=hall 0 (by omega)
   obtain⟨_,v,k⟩:=World.cells?_some I
   rw[s]at v k
   have r:=k 0 C
   rw[List.getElem?_eq_getElem (by omega)]at r
   simpa[Addr.add] using World.cell?_spot r
  obtain⟨c,J,K⟩:=hall i F
  obtain⟨_,A,l⟩:=World.cells?_some J
  rw[s]at A l
  obtain⟨X,R,_,_,_,U,M⟩:=DataW.trod_struct L K
  obtain⟨b,o,S⟩:=a
  simp only at p
  subst p
  refine⟨b,o,R,fun j=>c.getD j undef,rfl,fun j f g=>?_⟩
  have G:j<fs.size:=(Array.getElem?_eq_some_iff.1 g).1
  obtain⟨O,z⟩:=B j f g
  have q:=l j G
  rw[List.getElem?_eq_getElem (by omega)]at q
  have u:c.getD j undef=c[j]'(by omega):=by simp[List.getD,List.getElem?_eq_getElem (show j<c.length by omega)]
  have d:=M j f g
  rw[O,z]at d
  have E:(c.drop j).take 1=[c[j]'(by omega)]:=by
   rw[List.drop_eq_getElem_cons (by omega)];rfl
  rw[E,List.getElem?_eq_getElem (by omega)]at d
  refine⟨?_,_,by simp only[u];exact d⟩
  simp only[u]
  rw[<-q,Addr.add_lit,Addr.add_lit,Nat.add_assoc]
theorem bs_data (s:ByteArray):bs s.data.toList=s:=by simp[bs]
theorem xN {t:TypeId}{fuel:Nat}{v:Value}{x:DataW H×List MemPlace}(b:P.underlying t=some .string)(h:DataW.trod enc P w base spare held fuel t [v]=some x):∃s:Bs,v=.string (bs s):=by
 obtain⟨s,a,_⟩:=DataW.trod_string b h
 simp at a
 exact⟨s.data.toList,by rw[a,bs_data]⟩
theorem open_i64 {t:TypeId}{fuel:Nat}{v:Value}{x:DataW H×List MemPlace}(c:P.underlying t=some (.int .i64))(h:DataW.trod enc P w base spare held fuel t [v]=some x):∃n:Int,v=.int .i64 n/\Tp.I64 n:=by
 obtain⟨n,a,_,b⟩:=DataW.trod_int c h
 simp at a
 refine⟨n,a,?_⟩
 simp only[Lit.wf,IntKind.min,IntKind.max,IntKind.signed,IntKind.bits,Bool.and_eq_true,decide_eq_true_eq,if_true]at b
 unfold Tp.I64
 omega
theorem open_nums {t e:TypeId}{fuel:Nat}{v:Value}{x:DataW H×List MemPlace}(N:P.underlying t=some (.slice e))(K:P.underlying e=some (.int .i64))(y:P.cellsOf e=1)(h:DataW.trod enc P w base spare held fuel t [v]=some x) :
  ∃(xs:List Int) (a:Option Addr) (cap:Nat),v=.slice a xs.length cap/\IntsAt w xs a/\∀n∈xs,Tp.I64 n:=by
 rcases open_slice N h with⟨d,_⟩|⟨a,len,cap,m,n,D,Pl,d,hb,hlc,hcm,hm,_,hall⟩
 ·simp at d
  exact⟨[],none,0,d,⟨fun i c=>by simp at c⟩,fun n M=>by cases M⟩
 ·simp at d
  have key:∀i,i<len->∃k:Int,(∃b o,a=⟨b,o,none⟩/\w.cell? ⟨b,o+i,none⟩=some (.int .i64 k))/\Tp.I64 k:=by
   intro i c
   have E:i<m:=by rw[hm];split<;>omega
   obtain⟨r,I,J⟩:=hall i E
   obtain⟨_,q,j⟩:=World.cells?_some I
   rw[y]at q j
   have u:=j 0 (by omega)
   obtain⟨f,F⟩:∃f,r=[f]:=by
    match r,q with
    |[f],_=>exact⟨f,rfl⟩
   subst F
   obtain⟨k,g,C⟩:=open_i64 K J
   subst g
   have p:a.spot=none:=by
    obtain⟨S,O,_⟩:=hall 0 (by omega)
    obtain⟨_,Q,B⟩:=World.cells?_some O
    rw[y]at Q B
    have A:=B 0 (by omega)
    rw[List.getElem?_eq_getElem (by omega)]at A
    simpa[Addr.add] using World.cell?_spot A
   obtain⟨b,o,R⟩:=a
   simp only at p
   subst p
   refine⟨k,⟨b,o,rfl,?_⟩,C⟩
   rw[Addr.add_lit,Addr.add_lit,Nat.mul_one]at u
   simpa using u
  obtain⟨l,L,z⟩:=uq len key
  refine⟨l,some a,cap,by rw[d,L],⟨fun i c=>?_⟩,fun k g=>?_⟩
  ·obtain⟨⟨b,o,G,s⟩,_⟩:=z i c
   exact⟨b,o,by rw[G],zg s,s⟩
  ·obtain⟨i,c,rfl⟩:=List.getElem_of_mem g
   exact(z i c).2
end
theorem acts_at {H:Type}{enc:TypeId×Value->H}{W:World}{a:Option Addr}{n c:Nat}{d:DataW H}{p:List MemPlace}(h:DataW.Trod enc Tryz.prog W 0 (fun _=>true) true 22 (.slice a n c) d p):∃l:List Ac,l.length=n/\ActAt W l a:=by
 obtain⟨fuel,f⟩:=h
 obtain⟨N,M,cap,q,F⟩:=open_rows Tryz.underlying22 Tryz.underlying31 (hone_of (by kernel_rfl)) (by kernel_rfl) (by decide) f
 simp[Value.cells]at q
 obtain⟨rfl,rfl,rfl⟩:=q
 obtain⟨l,D,E⟩:=uq (P:=fun i (x:Ac)=>∃b o g ac,a=some ⟨b,o,none⟩/\(∀j,j<5->W.cell? ⟨b,o+(i*5+j),none⟩=(acells x g ac)[j]?)/\IntsAt W x.args g/\∀v∈x.args,Tp.I64 v) n (fun i m=>by
  obtain⟨b,o,k,V,e,f⟩:=F i m
  obtain⟨t,O,I⟩:=f 0 _ rfl
  obtain⟨c1,Q,t1⟩:=f 1 _ rfl
  obtain⟨c2,R,t2⟩:=f 2 _ rfl
  obtain⟨c3,S,t3⟩:=f 3 _ rfl
  obtain⟨u,T,J⟩:=f 4 _ rfl
  obtain⟨K,w,_⟩:=open_i64 Tryz.underlying3 I
  obtain⟨tx,y⟩:=xN Tryz.underlying9 t1
  obtain⟨nm,z⟩:=xN Tryz.underlying9 t2
  obtain⟨G,A⟩:=xN Tryz.underlying9 t3
  obtain⟨L,g,ac,B,s,r⟩:=open_nums Tryz.underlying29 Tryz.underlying2 (by kernel_rfl) J
  refine⟨⟨K,tx,nm,G,L⟩,b,o,g,ac,e,fun j C=>?_,s,r⟩
  match j,C with
  | 0,_=>exact t.trans (by rw[w];rfl)
  | 1,_=>exact c1.trans (by rw[y];rfl)
  | 2,_=>exact c2.trans (by rw[z];rfl)
  | 3,_=>exact c3.trans (by rw[A];rfl)
  | 4,_=>exact u.trans (by rw[B];rfl))
 exact⟨l,D,⟨fun i m=>E i m⟩⟩
end Go.Proofs.YtibncofnnlbmcaaGreatDoor
