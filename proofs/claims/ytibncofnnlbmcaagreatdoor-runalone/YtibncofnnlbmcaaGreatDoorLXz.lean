import Derived.Test.YtibncofnnlbmcaaGreatDoorLXa
import Derived.Deep.Fields
import Derived.Deep.Slices
import Derived.Deep.Strs
set_option maxRecDepth 100000
set_option maxHeartbeats 4000000
namespace Go.Proofs.YtibncofnnlbmcaaGreatDoor
open Go.RowKit Go.Maps
open Tp (Bs X S G Pr Pt Rs Rr Own)
structure Ac where
 what:Int
 text:Bs
 name:Bs
 proc:Bs
 args:List Int
def ActIs (P:List Pt) (a:Ac) (fuel:Nat) (r:Tp.Ans):Prop:=if a.what=1 then r=Tp.callW P a.name a.proc a.args fuel else match Tp.parse a.text with
 | .error er=>r=⟨P,Tp.no,0,some (er.1,some er.2)⟩
 | .ok m=>if a.what=2 then r=Tp.swapW ofS P m else r=Tp.loadW ofS P m fuel
def acells (a:Ac) (aa:Option Addr) (ac:Nat):Array Value:=#[.int .i64 a.what,.string (bs a.text),.string (bs a.name),.string (bs a.proc),.slice aa a.args.length ac]
def ActQ (X U:Nat->Prop) (c:Nat) (w:World) (wb:Nat) (r:Tp.Ans) (e:Ending) (w':World):Prop:=∃oa oc,e=.returned (.tuple #[.agg #[.int .i64 (r.e.way:Int),.slice oa r.e.out.length oc],.int .i64 r.n,.int .i64 (tellN r.err:Int)])/\AnsP X U c w wb r oa w'
theorem WZ.wide {X U:Nat->Prop}{c:Nat}{w w':World}{a:Nat}{P:List Pt}(h:WZ X U c w a P)(d:Below w.heap.size w w'){Y:Nat->Prop}(f:∀b,Y b->X b\/w.heap.size<=b):WZ Y U c w' a P:=h.other (fun b e _=>d.block b e) d.size f
theorem xT {X U:Nat->Prop}{c E:Nat}{w W w2 k n:World}{t:Nat}{r:Tp.Ans}{l:Option Addr}(f:Below w.heap.size w W)(N:w.heap.size<=E)(K:E<W.heap.size)(h:AnsP (fun b=>X b\/b=E) U c W t r l w2)(d:Below w2.heap.size w2 k)(a:Ext E k n):AnsP X U c w t r l n:=by
 obtain⟨⟨v,D,g⟩,y,G,A,s⟩:=h
 have O:=d.size
 have L:=g.size
 refine⟨⟨v,(D.on d).other (fun b j B=>a.block b j (fun e=>B (Or.inr e))) a.size (fun b q=>Or.inl (Or.inl q)),?_⟩,⟨fun i F=>?_⟩,G,A,fun x u=>by have:=s x u;have:=f.size;omega⟩
 ·have:=f.size
  refine⟨(((a.os.trans d.os).trans g.os).trans f.os),(((a.tape.trans d.tape).trans g.tape).trans f.tape),(((a.output.trans d.output).trans g.output).trans f.output),by have:=a.size;omega,fun b j C=>?_,fun b q=>?_⟩
  ·exact(((a.block b (by omega) (by omega)).trans (d.block b (by omega))).trans (g.block b (by omega) C)).trans (f.block b j)
  ·rcases g.more b q with z|z
   ·exact Or.inl z
   ·exact Or.inr (by omega)
 ·obtain⟨b,o,m,I,H⟩:=y.c i F
  have J:W.heap.size<=b:=s _ m
  have M:=a.size
  exact⟨b,o,m,by omega,(World.cell?_of_block (w:=k) (a.block b (by omega) (by omega))).trans ((d.cell (p:=⟨b,o+i,none⟩) I).trans H)⟩
theorem act_bad {X U:Nat->Prop}{c B:Nat}{w:World}{m fuel ac:Nat}{s:Option Addr}{P:List Pt}{a:Ac}(Q:VarsC B w)(hB:B<=w.heap.size)(T:∀b,U b->B<=b)(V:∀b,X b->b<w.heap.size)(h:WZ X U c w m P)(_:c<=80)(b1:¬a.what=1){er:Nat×Nat}(S:Tp.parse a.text=.error er)(I:a.text.length<=100000) :
  Calls Tryz.prog 11 #[.pointer (some ⟨m,0,none⟩),.agg (acells a s ac),.int .i64 (fuel:Int)] w (ActQ X U c w m ⟨P,Tp.no,0,some (er.1,some er.2)⟩):=by
 obtain⟨W,k⟩:∃W,W=(w.alloc (.cells (acells a s ac) 31)).alloc (.cells #[.int .i64 0,.slice none 0 0] 43):=⟨_,rfl⟩
 have o:Below w.heap.size w W:=by rw[k];exact(zb _ _).alloc (by simp) _
 have L:W.heap.size=w.heap.size+2:=by rw[k];simp
 have f:W.heap[w.heap.size]?=some (.cells (acells a s ac) 31 (0,0)):=by rw[k];exact(Below.heap_alloc _ _ _ (by simp)).trans (zo _ _)
 have O:W.heap[w.heap.size+1]?=some (.cells #[.int .i64 0,.slice none 0 0] 43 (0,0)):=by rw[k];exact yj _ _ _
 have N:WZ (fun b=>X b\/b=w.heap.size+1) U c W m P:=h.wide o (fun b q=>q.imp id (fun z=>by omega))
 have G:∀b,X b\/b=w.heap.size+1->b<W.heap.size:=fun b q=>by
  rcases q with q|q
  ·have:=V b q;omega
  ·omega
 have H:∀b,U b->b<w.heap.size:=fun b q=>(h.lt q).1
 have n:=Q.on' hB o
 unfold acells at *
 have a0:W.cell? ⟨w.heap.size,0,none⟩=some (.int .i64 a.what):=(za f).trans rfl
 have a1:W.cell? ⟨w.heap.size,1,none⟩=some (.string (bs a.text)):=(za f).trans rfl
 have a2:W.cell? ⟨w.heap.size,2,none⟩=some (.string (bs a.name)):=(za f).trans rfl
 have a3:W.cell? ⟨w.heap.size,3,none⟩=some (.string (bs a.proc)):=(za f).trans rfl
 have a4:W.cell? ⟨w.heap.size,4,none⟩=some (.slice s a.args.length ac):=(za f).trans rfl
 have b3:=zf f
 have K:=zh o
 have a7:=zh L
 have J:=zh O
 have b0:=zh f
 have a6:=zh N
 have b4:=zh G
 have b2:=zh H
 have a5:=zh n
 have HU:=zh T
 have a9:=zh (yP W a.text I n.mks n.lv)
 have HP:=zh S
 clear o L O f N G H n Q T V h S I
 generalize a.what=wh at *
 go_enter Tryz.func11,Tryz.ntmps11
 go_upto_region 1 with fail
 rw[<-k]
 clear k
 go_wp2_with fail
 refine a9.out.mono ?_
 rintro e w2⟨A,E⟩
 unfold ParseP at E
 rw[HP.out]at E
 obtain⟨C,rfl,a8,D,h1⟩:=E
 unfold m0
 obtain⟨g,u⟩:∃g,g=w2.alloc (.cells #[.string ⟨#[]⟩,.slice none 0 0,.slice none 0 0,.slice none 0 0,.slice none 0 0] 36):=⟨_,rfl⟩
 have x:Below w2.heap.size w2 g:=by rw[u];exact zb _ _
 have y:Hid (Below W.heap.size W g):=A.trans (x.mono A.size)
 have R:Hid (Calls Tryz.prog 25 #[.iface 117 (.pointer (some ⟨C,0,none⟩))] g fun e d=>e=.returned (.int .i64 (er.1:Int))/\Below g.heap.size g d):=tell_at (er.1:Int) C g (a5.out.on' (by have:=K.out.size;omega) y.out).et ((x.cell (p:=⟨C,0,none⟩) (zg D)).trans D)
 clear A x a8 D h1
 go_upto_region 5 with fail
 rw[<-u]
 clear u
 go_wp2_with fail
 refine R.out.mono ?_
 rintro e d⟨rfl,M⟩
 have F:Hid (Below W.heap.size W d):=y.out.trans (M.mono y.out.size)
 have l:Hid (d.heap[w.heap.size+1]?=some (.cells #[.int .i64 0,.slice none 0 0] 43 (0,0))):=(F.out.block _ (zf J.out)).trans J.out
 clear M R
 have e0:d.cell? ⟨w.heap.size+1,0,none⟩=some (.int .i64 0):=(za l.out).trans rfl
 have b5:d.cell? ⟨w.heap.size+1,1,none⟩=some (.slice none 0 0):=(za l.out).trans rfl
 have ez:∀j,d.frozen? ⟨w.heap.size+1,j,none⟩=false:=fun j=>zi l.out
 have b6:=zf l.out
 have t:=zu 1 (.slice none 0 0) (zu 0 (.int .i64 0) l.out)
 obtain⟨i,r⟩:∃i,i=(d.setCell ⟨w.heap.size+1,0,none⟩ (.int .i64 0)).setCell ⟨w.heap.size+1,1,none⟩ (.slice none 0 0):=⟨_,rfl⟩
 have f0:i.cell? ⟨w.heap.size+1,0,none⟩=some (.int .i64 0):=by rw[r];exact(za t).trans rfl
 have f1:i.cell? ⟨w.heap.size+1,1,none⟩=some (.slice none 0 0):=by rw[r];exact(za t).trans rfl
 have Z:Hid (Ext (w.heap.size+1) d i):=by rw[r];exact((Ext.refl _ _).set 0 _).set 1 _
 clear t
 have Y:Hid (AnsP X U c w m ⟨P,Tp.no,0,some (er.1,some er.2)⟩ none i):=xT K.out (by omega) (by have:=a7.out;omega) (yW a6.out F.out) (Below.refl _ _) Z.out
 go_wp2_with fail
 rw[<-r]
 exact bodyPost_ret (v:=.tuple #[.agg #[.int .i64 0,.slice none 0 0],.int .i64 0,.int .i64 (er.1:Int)]) (by simp[results,Tryz.results11,go_sem,f0,f1]) rfl (⟨none,0,rfl,Y.out⟩)
theorem act_call {X U:Nat->Prop}{c B:Nat}{w:World}{y fuel ac:Nat}{x:Option Addr}{P:List Pt}{a:Ac}(hv:VarsC B w)(hB:B<=w.heap.size)(hU:∀b,U b->B<=b)(hX:∀b,X b->b<w.heap.size)(h:WZ X U c w y P)(_:c<=80)(T:a.what=1)(hf:fuel<=800000)(c1:a.name.length<=1000000)(Q:∀v∈a.args,Tp.I64 v)(b5:IntsAt w a.args x)(b7:a.args.length<=1000000) :
  Calls Tryz.prog 11 #[.pointer (some ⟨y,0,none⟩),.agg (acells a x ac),.int .i64 (fuel:Int)] w (ActQ X U c w y (Tp.callW P a.name a.proc a.args fuel)):=by
 obtain⟨r,O⟩:∃r,r=Tp.callW P a.name a.proc a.args fuel:=⟨_,rfl⟩
 obtain⟨W,m⟩:∃W,W=(w.alloc (.cells (acells a x ac) 31)).alloc (.cells #[.int .i64 0,.slice none 0 0] 43):=⟨_,rfl⟩
 have t:Below w.heap.size w W:=by rw[m];exact(zb _ _).alloc (by simp) _
 have b3:W.heap.size=w.heap.size+2:=by rw[m];simp
 have l:W.heap[w.heap.size]?=some (.cells (acells a x ac) 31 (0,0)):=by rw[m];exact(Below.heap_alloc _ _ _ (by simp)).trans (zo _ _)
 have Z:W.heap[w.heap.size+1]?=some (.cells #[.int .i64 0,.slice none 0 0] 43 (0,0)):=by rw[m];exact yj _ _ _
 have N:WZ (fun b=>X b\/b=w.heap.size+1) U c W y P:=h.wide t (fun b q=>q.imp id (fun z=>by omega))
 have a5:∀b,X b\/b=w.heap.size+1->b<W.heap.size:=fun b q=>by
  rcases q with q|q
  ·have:=hX b q;omega
  ·omega
 have a6:∀b,U b->b<w.heap.size:=fun b q=>(h.lt q).1
 have R:=hv.on' hB t
 unfold acells at *
 have a0:W.cell? ⟨w.heap.size,0,none⟩=some (.int .i64 a.what):=(za l).trans rfl
 have a1:W.cell? ⟨w.heap.size,1,none⟩=some (.string (bs a.text)):=(za l).trans rfl
 have a2:W.cell? ⟨w.heap.size,2,none⟩=some (.string (bs a.name)):=(za l).trans rfl
 have a3:W.cell? ⟨w.heap.size,3,none⟩=some (.string (bs a.proc)):=(za l).trans rfl
 have a4:W.cell? ⟨w.heap.size,4,none⟩=some (.slice x a.args.length ac):=(za l).trans rfl
 have e2:=zf l
 have K:=zh t
 have Y:=zh b3
 have a9:=zh Z
 have d8:=zh l
 have d9:=zh N
 have d6:=zh a5
 have c9:=zh a6
 have d0:=zh R
 have HU:=zh hU
 have H:=zh (call_any (ac:=ac) (nm:=a.proc) N hf c1 Q (b5.on t) b7)
 rw[<-O]at H
 clear t b3 Z l N a5 a6 R hv hU hX h Q b5
 rw[<-O]
 clear O
 rw[T]at a0 m ⊢
 clear T
 obtain⟨an,b1⟩:∃an,an=a.args.length:=⟨_,rfl⟩
 rw[<-b1]at a4 m H b7 ⊢
 clear b1
 go_enter Tryz.func11,Tryz.ntmps11
 go_upto_region 1 with fail
 rw[<-m]
 clear m
 go_wp2_with fail
 refine H.out.mono ?_
 rintro e w2⟨f,i,ev,rfl,I,a7⟩
 obtain⟨g,L⟩:∃g,g=r.e.out.length:=⟨_,rfl⟩
 obtain⟨k,C⟩:∃k,k=w2.alloc (.cells #[.int .i64 (r.e.way:Int),.slice f g i] 43):=⟨_,rfl⟩
 have M:Below w2.heap.size w2 k:=by rw[C];exact zb _ _
 have o:k.heap[w2.heap.size]?=some (.cells #[.int .i64 (r.e.way:Int),.slice f g i] 43 (0,0)):=by rw[C];exact zo _ _
 obtain⟨U',d1,E⟩:=I.wz
 have A:w2.heap[w.heap.size+1]?=some (.cells #[.int .i64 0,.slice none 0 0] 43 (0,0)):=(E.block _ (zf a9.out) (fun q=>by have:=c9.out _ q;omega)).trans a9.out
 have b6:Below B W w2:=E.toBelow (by have:=K.out.size;omega) HU.out
 have a8:VarsC B k.drew:=((d0.out.on b6).on (M.mono (by have:=E.size;have:=K.out.size;omega))).on ((Below.refl _ _).drew)
 have HT:Hid (Calls Tryz.prog 25 #[ev] k.drew fun e d=>e=.returned (.int .i64 (tellN r.err:Int))/\(Below w2.heap.size w2 d/\d.heap[w.heap.size+1]?=some (.cells #[.int .i64 0,.slice none 0 0] 43 (0,0)))/\(d.cell? ⟨w2.heap.size,0,none⟩=some (.int .i64 (r.e.way:Int))/\d.cell? ⟨w2.heap.size,1,none⟩=some (.slice f g i))):=by
  have hd:Below w2.heap.size w2 k.drew:=M.drew
  refine(x7 (b2:=0) a7 (by have:=Y.out;omega) (Ext.below hd) a8.et).mono ?_
  rintro e d⟨h1,h2⟩
  have u:Below w2.heap.size w2 d:=hd.trans (h2.mono hd.size)
  have b8:Below k.heap.size k d:=((Below.refl k.heap.size k).drew).trans h2
  have b0:=(b8.block _ (zf o)).trans o
  exact⟨h1,⟨u,(u.block _ (zf A)).trans A⟩,(za b0).trans rfl,(za b0).trans rfl⟩
 have c2:Hid (k.drew.cell? ⟨w2.heap.size,0,none⟩=some (.int .i64 (r.e.way:Int))/\k.drew.cell? ⟨w2.heap.size,1,none⟩=some (.slice f g i)):=⟨(za o).trans rfl,(za o).trans rfl⟩
 have d5:=zf o
 have D:Hid (w2.heap.size≠w.heap.size+1):=by have:=zf A;show _≠_;omega
 have b9:=zh I
 have c8:=zh L
 rw[<-L]
 clear M o d1 E A b6 a8 a7 I L H
 generalize S:tellN r.err=tl at *
 have d4:=zh S
 clear S
 generalize b4:r.n=nn at *
 have c3:=zh b4
 clear b4
 generalize V:r.e.way=wy at *
 have d2:=zh V
 clear V
 go_upto_region 3 with fail
 rw[<-C]
 clear C a0 a1 a2 a3 a4
 go_region_held3 (fun w'=>w'.cell? ⟨w2.heap.size,0,none⟩=some (.int .i64 (wy:Int))/\w'.cell? ⟨w2.heap.size,1,none⟩=some (.slice f g i)) (with_reducible (first|exact c5.out|exact c6.out|exact c2.out)) (first|(go_at_call 25;refine HT.out.mono ?_;rintro e d ⟨rfl,⟨u,p⟩,G⟩;have c7:=zh u;have d3:=zh p;have c6:=zh G;have e0:d.cell? ⟨w.heap.size+1,0,none⟩=some (.int .i64 0):=(za p).trans rfl;have d7:d.cell? ⟨w.heap.size+1,1,none⟩=some (.slice none 0 0):=(za p).trans rfl;have ez:∀j,d.frozen? ⟨w.heap.size+1,j,none⟩=false:=fun j=>zi p;have e1:=zf p;have c5:Hid (((d.setCell ⟨w.heap.size+1,0,none⟩ (.int .i64 (wy:Int))).setCell ⟨w.heap.size+1,1,none⟩ (.slice f g i)).cell? ⟨w2.heap.size,0,none⟩=some (.int .i64 (wy:Int))/\((d.setCell ⟨w.heap.size+1,0,none⟩ (.int .i64 (wy:Int))).setCell ⟨w.heap.size+1,1,none⟩ (.slice f g i)).cell? ⟨w2.heap.size,1,none⟩=some (.slice f g i)):=⟨(World.cell?_of_block (w:=d) ((zx _ D.out).trans (zx _ D.out))).trans G.1,(World.cell?_of_block (w:=d) ((zx _ D.out).trans (zx _ D.out))).trans G.2⟩;clear u p G))
 have J:=zu 1 (.slice f g i) (zu 0 (.int .i64 (wy:Int)) d3.out)
 obtain⟨s,F⟩:∃s,s=(d.setCell ⟨w.heap.size+1,0,none⟩ (.int .i64 (wy:Int))).setCell ⟨w.heap.size+1,1,none⟩ (.slice f g i):=⟨_,rfl⟩
 have f0:s.cell? ⟨w.heap.size+1,0,none⟩=some (.int .i64 (wy:Int)):=by rw[F];exact(za J).trans rfl
 have f1:s.cell? ⟨w.heap.size+1,1,none⟩=some (.slice f g i):=by rw[F];exact(za J).trans rfl
 have c4:Hid (Ext (w.heap.size+1) d s):=by rw[F];exact((Ext.refl _ _).set 0 _).set 1 _
 clear J
 have c0:Hid (AnsP X U c w y r f s):=xT K.out (by omega) (by have:=Y.out;omega) b9.out c7.out c4.out
 go_wp2_with fail
 rw[<-F]
 exact bodyPost_ret (v:=.tuple #[.agg #[.int .i64 (wy:Int),.slice f g i],.int .i64 nn,.int .i64 (tl:Int)]) (by simp[results,Tryz.results11,go_sem,f0,f1]) rfl (⟨f,i,by rw[d2.out,c3.out,d4.out,<-c8.out],c0.out⟩)
end Go.Proofs.YtibncofnnlbmcaaGreatDoor
namespace Go.Proofs.YtibncofnnlbmcaaGreatDoor
open Go.RowKit Go.Maps
open Tp (Bs X S G Pr Pt Rs Rr Own)
theorem VM.mdb {B:Nat}{m:Tp.M}{v:Value}{w:World}(h:VM B m v w):∃c i j e d a f g,v=.agg (mcells (bs m.name) (.slice c m.imports.length d) (.slice i m.vars.length a) (.slice j m.procs.length f) (.slice e m.body.length g))/\MD w (fun b=>B<=b) m c i j e d a f g/\MB w w.heap.size m c i j e d a f g:=by
 obtain⟨c,i,j,e,d,a,f,g,l,n,p,u,q,t,r,x,s⟩:=h
 have k:MD w (fun b=>B<=b) m c i j e d a f g:=⟨u,q,⟨l,t,r⟩,⟨n,x,s⟩⟩
 exact⟨c,i,j,e,d,a,f,g,p,k,k.mb (fun b _ o=>o)⟩
theorem act_swap {X U:Nat->Prop}{c B:Nat}{w:World}{o fuel ac:Nat}{Z:Option Addr}{P:List Pt}{a:Ac}(I:VarsC B w)(hB:B<=w.heap.size)(hU:∀b,U b->B<=b)(hX:∀b,X b->b<w.heap.size)(h:WZ X U c w o P)(hc:c<=80)(c4:a.what=2){m:Tp.M}(hp:Tp.parse a.text=.ok m)(O:a.text.length<=1000) :
  Calls Tryz.prog 11 #[.pointer (some ⟨o,0,none⟩),.agg (acells a Z ac),.int .i64 (fuel:Int)] w (ActQ X U c w o (Tp.swapW ofS P m)):=by
 obtain⟨r,Y⟩:∃r,r=Tp.swapW ofS P m:=⟨_,rfl⟩
 have d5:r.e=Tp.no/\r.n=0:=by
  rw[Y]
  unfold Tp.swapW
  split
  ·exact⟨rfl,rfl⟩
  ·split
   ·exact⟨rfl,rfl⟩
   ·split
    ·exact⟨rfl,rfl⟩
    ·split
     ·exact⟨rfl,rfl⟩
     ·exact⟨rfl,rfl⟩
 obtain⟨d9,e6⟩:=Tp.parse_wm hp
 have e3:Tp.nM m<=1000:=by omega
 obtain⟨W,s⟩:∃W,W=(w.alloc (.cells (acells a Z ac) 31)).alloc (.cells #[.int .i64 0,.slice none 0 0] 43):=⟨_,rfl⟩
 have R:Below w.heap.size w W:=by rw[s];exact(zb _ _).alloc (by simp) _
 have d2:W.heap.size=w.heap.size+2:=by rw[s];simp
 have g:W.heap[w.heap.size]?=some (.cells (acells a Z ac) 31 (0,0)):=by rw[s];exact(Below.heap_alloc _ _ _ (by simp)).trans (zo _ _)
 have b6:W.heap[w.heap.size+1]?=some (.cells #[.int .i64 0,.slice none 0 0] 43 (0,0)):=by rw[s];exact yj _ _ _
 have d8:WZ (fun b=>X b\/b=w.heap.size+1) U c W o P:=h.wide R (fun b q=>q.imp id (fun z=>by omega))
 have b7:∀b,X b\/b=w.heap.size+1->b<W.heap.size:=fun b q=>by
  rcases q with q|q
  ·have:=hX b q;omega
  ·omega
 have b9:∀b,U b->b<w.heap.size:=fun b q=>(h.lt q).1
 have N:=I.on' hB R
 unfold acells at *
 have a0:W.cell? ⟨w.heap.size,0,none⟩=some (.int .i64 a.what):=(za g).trans rfl
 have a1:W.cell? ⟨w.heap.size,1,none⟩=some (.string (bs a.text)):=(za g).trans rfl
 have a2:W.cell? ⟨w.heap.size,2,none⟩=some (.string (bs a.name)):=(za g).trans rfl
 have a3:W.cell? ⟨w.heap.size,3,none⟩=some (.string (bs a.proc)):=(za g).trans rfl
 have a4:W.cell? ⟨w.heap.size,4,none⟩=some (.slice Z a.args.length ac):=(za g).trans rfl
 have f8:=zf g
 have a6:=zh R
 have b5:=zh d2
 have b1:=zh b6
 have g5:=zh g
 have f6:=zh d8
 have c3:=zh b7
 have c9:=zh b9
 have f4:=zh N
 have HU:=zh hU
 have c6:=zh (yP W a.text (by omega) N.mks N.lv)
 have HP:=zh hp
 have HR:=zh Y
 have y:=zh d5
 have f3:=zh d9
 clear R d2 b6 g d8 b7 b9 N I hU hX h hp O d5 d9 e6
 rw[<-Y]
 clear Y
 rw[c4]at a0 s ⊢
 clear c4
 obtain⟨wh,a8⟩:∃wh:Int,wh=2:=⟨_,rfl⟩
 have e7:=zh a8
 rw[<-a8]at a0 s ⊢
 have f9:¬wh=1:=by omega
 clear a8
 go_enter Tryz.func11,Tryz.ntmps11
 go_upto_region 1 with fail
 rw[<-s]
 clear s
 go_wp2_with fail
 refine c6.out.mono ?_
 rintro e w2⟨a9,hq⟩
 unfold ParseP at hq
 rw[HP.out]at hq
 obtain⟨v,rfl,b4⟩:=hq
 obtain⟨E,L,D,J,F,H,G,K,rfl,d3,d4⟩:=b4.mdb
 obtain⟨d,A⟩:∃d,d=w2.alloc (.cells (mcells (bs m.name) (.slice E m.imports.length F) (.slice L m.vars.length H) (.slice D m.procs.length G) (.slice J m.body.length K)) 36):=⟨_,rfl⟩
 have V:Below w2.heap.size w2 d:=by rw[A];exact zb _ _
 have k:d.heap[w2.heap.size]?=some (.cells (mcells (bs m.name) (.slice E m.imports.length F) (.slice L m.vars.length H) (.slice D m.procs.length G) (.slice J m.body.length K)) 36 (0,0)):=by rw[A];exact zo _ _
 have f:Hid (Below W.heap.size W d):=a9.trans (V.mono a9.size)
 have e1:=f6.out.on f.out
 have g7:=f.out.size
 have b3:MD d (fun b=>W.heap.size<=b) m E L D J F H G K:=d3.mono (fun b hb hl=>⟨V.block b hl,hb⟩)
 have hD:∀b,W.heap.size<=b->b<d.heap.size->¬(X b\/b=w.heap.size+1)/\¬U b:=fun b hb _=>⟨fun q=>by have:=c3.out b q;omega,fun q=>by have:=c9.out b q;have:=b5.out;omega⟩
 have c8:∀b,X b\/b=w.heap.size+1->b<d.heap.size:=fun b q=>by have:=c3.out b q;omega
 have HC:Hid (Calls Tryz.prog 18 #[.pointer (some ⟨o,0,none⟩),.agg (mcells (bs m.name) (.slice E m.imports.length F) (.slice L m.vars.length H) (.slice D m.procs.length G) (.slice J m.body.length K))] d (SwapQ (fun b=>X b\/b=w.heap.size+1) U c d o r)):=by
  rw[HR.out]
  exact swap_anyZ e1 c8 (by omega) (d4.up V) b3 hD f3.out e3
 unfold mcells at *
 obtain⟨mn,c5⟩:∃mn,mn=bs m.name:=⟨_,rfl⟩
 obtain⟨il,c7⟩:∃il,il=m.imports.length:=⟨_,rfl⟩
 obtain⟨gl,c1⟩:∃gl,gl=m.vars.length:=⟨_,rfl⟩
 obtain⟨pl,d6⟩:∃pl,pl=m.procs.length:=⟨_,rfl⟩
 obtain⟨bl,d0⟩:∃bl,bl=m.body.length:=⟨_,rfl⟩
 rw[<-c5,<-c7,<-c1,<-d6,<-d0]at A k HC ⊢
 clear c5 c7 c1 d6 d0
 have e9:d.cell? ⟨w2.heap.size,0,none⟩=some (.string mn):=(za k).trans rfl
 have f5:d.cell? ⟨w2.heap.size,1,none⟩=some (.slice E il F):=(za k).trans rfl
 have f2:d.cell? ⟨w2.heap.size,2,none⟩=some (.slice L gl H):=(za k).trans rfl
 have e5:d.cell? ⟨w2.heap.size,3,none⟩=some (.slice D pl G):=(za k).trans rfl
 have f7:d.cell? ⟨w2.heap.size,4,none⟩=some (.slice J bl K):=(za k).trans rfl
 have g3:=zf k
 have b0:d.cell? ⟨w.heap.size,0,none⟩=some (.int .i64 wh):=(f.out.cell (p:=⟨w.heap.size,0,none⟩) f8).trans a0
 have g2:=zg b0
 clear a9 V k b4 d3 d4 e1 b3 hD c8 a0 a1 a2 a3 a4 c6
 go_upto_region 5 with fail
 rw[<-A]
 clear A
 have d1:=e7.out
 rw[d1]at b0
 clear d1 f9
 go_wp2_with fail
 refine HC.out.mono ?_
 rintro e u⟨ev,rfl,Q,c2⟩
 obtain⟨U',Q,S⟩:=Q
 have b8:u.heap[w.heap.size+1]?=some (.cells #[.int .i64 0,.slice none 0 0] 43 (0,0)):=((S.block _ (by have:=zf b1.out;have:=f.out.size;omega) (fun q=>by have:=c9.out _ q;omega)).trans (f.out.block _ (zf b1.out))).trans b1.out
 have d7:Below B W u:=(f.out.mono (by have:=a6.out.size;omega)).trans (S.toBelow (by have:=a6.out.size;have:=f.out.size;omega) HU.out)
 have HT:Hid (Calls Tryz.prog 25 #[ev] u fun e l=>e=.returned (.int .i64 (tellN r.err:Int))/\Below u.heap.size u l):=x7 (b2:=0) c2 (by omega) (Ext.refl _ _) (f4.out.on d7).et
 have e2:Hid (AnsP (fun b=>X b\/b=w.heap.size+1) U c W o r none u):=by
  refine⟨⟨U',Q,Tr.ahead f.out S⟩,⟨fun i hi=>?_⟩,fun v I=>?_,?_,fun x hx=>(by cases hx)⟩
  ·rw[y.out.1]at hi;cases hi
  ·rw[y.out.1]at I;cases I
  ·rw[y.out.1];show (0:Nat)<=200;omega
 have c0:=zh b8
 clear Q S c2 b8 d7 HC e9 f5 f2 e5 f7 b0
 generalize O:tellN r.err=tl at *
 have g0:=zh O
 clear O
 go_wp2_with fail
 refine HT.out.mono ?_
 rintro e l⟨rfl,a7⟩
 have g1:=zh a7
 have C:Hid (l.heap[w.heap.size+1]?=some (.cells #[.int .i64 0,.slice none 0 0] 43 (0,0))):=(a7.block _ (zf c0.out)).trans c0.out
 clear a7 HT
 have e0:l.cell? ⟨w.heap.size+1,0,none⟩=some (.int .i64 0):=(za C.out).trans rfl
 have g4:l.cell? ⟨w.heap.size+1,1,none⟩=some (.slice none 0 0):=(za C.out).trans rfl
 have ez:∀j,l.frozen? ⟨w.heap.size+1,j,none⟩=false:=fun j=>zi C.out
 have g6:=zf C.out
 have a5:=zu 1 (.slice none 0 0) (zu 0 (.int .i64 0) C.out)
 obtain⟨t,T⟩:∃t,t=(l.setCell ⟨w.heap.size+1,0,none⟩ (.int .i64 0)).setCell ⟨w.heap.size+1,1,none⟩ (.slice none 0 0):=⟨_,rfl⟩
 have f0:t.cell? ⟨w.heap.size+1,0,none⟩=some (.int .i64 0):=by rw[T];exact(za a5).trans rfl
 have f1:t.cell? ⟨w.heap.size+1,1,none⟩=some (.slice none 0 0):=by rw[T];exact(za a5).trans rfl
 have e8:Hid (Ext (w.heap.size+1) l t):=by rw[T];exact((Ext.refl _ _).set 0 _).set 1 _
 clear a5
 have e4:Hid (AnsP X U c w o r none t):=xT a6.out (by omega) (by have:=b5.out;omega) e2.out g1.out e8.out
 go_wp2_with fail
 rw[<-T]
 exact bodyPost_ret (v:=.tuple #[.agg #[.int .i64 0,.slice none 0 0],.int .i64 0,.int .i64 (tl:Int)]) (by simp[results,Tryz.results11,go_sem,f0,f1]) rfl (⟨none,0,by rw[y.out.1,y.out.2,g0.out];rfl,e4.out⟩)
theorem act_load {X U:Nat->Prop}{c B:Nat}{w:World}{y fuel ac:Nat}{aa:Option Addr}{P:List Pt}{a:Ac}(hv:VarsC B w)(hB:B<=w.heap.size)(hU:∀b,U b->B<=b)(hX:∀b,X b->b<w.heap.size)(h:WZ X U c w y P)(hc:c<=80)(h8:¬a.what=1)(i0:¬a.what=2){m:Tp.M}(hp:Tp.parse a.text=.ok m)(V:a.text.length<=1000)(hf:fuel<=800000) :
  Calls Tryz.prog 11 #[.pointer (some ⟨y,0,none⟩),.agg (acells a aa ac),.int .i64 (fuel:Int)] w (ActQ X U c w y (Tp.loadW ofS P m fuel)):=by
 obtain⟨r,hr⟩:∃r,r=Tp.loadW ofS P m fuel:=⟨_,rfl⟩
 have e1:r.n=0:=by
  rw[hr]
  unfold Tp.loadW
  split
  ·rfl
  ·split
   ·rfl
   ·split
    ·rfl
    ·rfl
 obtain⟨e5,f5⟩:=Tp.parse_wm hp
 have f2:Tp.nM m<=1000:=by omega
 obtain⟨W,F⟩:∃W,W=(w.alloc (.cells (acells a aa ac) 31)).alloc (.cells #[.int .i64 0,.slice none 0 0] 43):=⟨_,rfl⟩
 have Z:Below w.heap.size w W:=by rw[F];exact(zb _ _).alloc (by simp) _
 have d5:W.heap.size=w.heap.size+2:=by rw[F];simp
 have t:W.heap[w.heap.size]?=some (.cells (acells a aa ac) 31 (0,0)):=by rw[F];exact(Below.heap_alloc _ _ _ (by simp)).trans (zo _ _)
 have c3:W.heap[w.heap.size+1]?=some (.cells #[.int .i64 0,.slice none 0 0] 43 (0,0)):=by rw[F];exact yj _ _ _
 have e4:WZ (fun b=>X b\/b=w.heap.size+1) U c W y P:=h.wide Z (fun b q=>q.imp id (fun z=>by omega))
 have c4:∀b,X b\/b=w.heap.size+1->b<W.heap.size:=fun b q=>by
  rcases q with q|q
  ·have:=hX b q;omega
  ·omega
 have c5:∀b,U b->b<w.heap.size:=fun b q=>(h.lt q).1
 have T:=hv.on' hB Z
 unfold acells at *
 have a0:W.cell? ⟨w.heap.size,0,none⟩=some (.int .i64 a.what):=(za t).trans rfl
 have a1:W.cell? ⟨w.heap.size,1,none⟩=some (.string (bs a.text)):=(za t).trans rfl
 have a2:W.cell? ⟨w.heap.size,2,none⟩=some (.string (bs a.name)):=(za t).trans rfl
 have a3:W.cell? ⟨w.heap.size,3,none⟩=some (.string (bs a.proc)):=(za t).trans rfl
 have a4:W.cell? ⟨w.heap.size,4,none⟩=some (.slice aa a.args.length ac):=(za t).trans rfl
 have h3:=zf t
 have Y:=zh Z
 have c2:=zh d5
 have b6:=zh c3
 have i1:=zh t
 have g7:=zh e4
 have c8:=zh c4
 have d3:=zh c5
 have g5:=zh T
 have HU:=zh hU
 have d0:=zh (yP W a.text (by omega) T.mks T.lv)
 have HP:=zh hp
 have HR:=zh hr
 have f6:=zh e1
 have g4:=zh e5
 clear Z d5 c3 t e4 c4 c5 T hv hU hX h hp V e1 e5 f5
 rw[<-hr]
 clear hr
 generalize a.what=wh at *
 go_enter Tryz.func11,Tryz.ntmps11
 go_upto_region 1 with fail
 rw[<-F]
 clear F
 go_wp2_with fail
 refine d0.out.mono ?_
 rintro e w2⟨b4,hq⟩
 unfold ParseP at hq
 rw[HP.out]at hq
 obtain⟨v,rfl,c0⟩:=hq
 obtain⟨K,S,J,Q,L,O,N,R,rfl,d7,d8⟩:=c0.mdb
 obtain⟨g,H⟩:∃g,g=w2.alloc (.cells (mcells (bs m.name) (.slice K m.imports.length L) (.slice S m.vars.length O) (.slice J m.procs.length N) (.slice Q m.body.length R)) 36):=⟨_,rfl⟩
 have b1:Below w2.heap.size w2 g:=by rw[H];exact zb _ _
 have u:g.heap[w2.heap.size]?=some (.cells (mcells (bs m.name) (.slice K m.imports.length L) (.slice S m.vars.length O) (.slice J m.procs.length N) (.slice Q m.body.length R)) 36 (0,0)):=by rw[H];exact zo _ _
 have s:Hid (Below W.heap.size W g):=b4.trans (b1.mono b4.size)
 have e6:=g7.out.on s.out
 have i4:=s.out.size
 have b8:MD g (fun b=>W.heap.size<=b) m K S J Q L O N R:=d7.mono (fun b hb hl=>⟨b1.block b hl,hb⟩)
 have hD:∀b,W.heap.size<=b->b<g.heap.size->¬(X b\/b=w.heap.size+1)/\¬U b:=fun b hb _=>⟨fun q=>by have:=c8.out b q;omega,fun q=>by have:=d3.out b q;have:=c2.out;omega⟩
 have d2:∀b,X b\/b=w.heap.size+1->b<g.heap.size:=fun b q=>by have:=c8.out b q;omega
 have HC:Hid (Calls Tryz.prog 17 #[.pointer (some ⟨y,0,none⟩),.agg (mcells (bs m.name) (.slice K m.imports.length L) (.slice S m.vars.length O) (.slice J m.procs.length N) (.slice Q m.body.length R)),.int .i64 (fuel:Int)] g (LoadQ (fun b=>X b\/b=w.heap.size+1) U c g y r)):=by
  rw[HR.out]
  exact vJ e6 d2 (by omega) (d8.up b1) b8 hD g4.out f2 hf
 unfold mcells at *
 obtain⟨mn,c9⟩:∃mn,mn=bs m.name:=⟨_,rfl⟩
 obtain⟨il,d1⟩:∃il,il=m.imports.length:=⟨_,rfl⟩
 obtain⟨gl,c6⟩:∃gl,gl=m.vars.length:=⟨_,rfl⟩
 obtain⟨pl,e2⟩:∃pl,pl=m.procs.length:=⟨_,rfl⟩
 obtain⟨bl,d4⟩:∃bl,bl=m.body.length:=⟨_,rfl⟩
 rw[<-c9,<-d1,<-c6,<-e2,<-d4]at H u HC ⊢
 clear c9 d1 c6 e2 d4
 have f9:g.cell? ⟨w2.heap.size,0,none⟩=some (.string mn):=(za u).trans rfl
 have g6:g.cell? ⟨w2.heap.size,1,none⟩=some (.slice K il L):=(za u).trans rfl
 have g0:g.cell? ⟨w2.heap.size,2,none⟩=some (.slice S gl O):=(za u).trans rfl
 have f4:g.cell? ⟨w2.heap.size,3,none⟩=some (.slice J pl N):=(za u).trans rfl
 have g8:g.cell? ⟨w2.heap.size,4,none⟩=some (.slice Q bl R):=(za u).trans rfl
 have h7:=zf u
 have b0:g.cell? ⟨w.heap.size,0,none⟩=some (.int .i64 wh):=(s.out.cell (p:=⟨w.heap.size,0,none⟩) h3).trans a0
 have h6:=zg b0
 clear b4 b1 u c0 d7 d8 e6 b8 hD d2 a0 a1 a2 a3 a4 d0
 go_upto_region 5 with fail
 rw[<-H]
 clear H
 go_wp2_with fail
 refine HC.out.mono ?_
 rintro e d⟨i,o,ev,rfl,e9,A,c7⟩
 obtain⟨k,b7⟩:∃k,k=r.e.out.length:=⟨_,rfl⟩
 obtain⟨U',b9,I⟩:=A.wz
 obtain⟨l,a7⟩:∃l,l=d.alloc (.cells #[.int .i64 (r.e.way:Int),.slice i k o] 43):=⟨_,rfl⟩
 have b5:Below d.heap.size d l:=by rw[a7];exact zb _ _
 have C:l.heap[d.heap.size]?=some (.cells #[.int .i64 (r.e.way:Int),.slice i k o] 43 (0,0)):=by rw[a7];exact zo _ _
 have a5:d.heap[w.heap.size+1]?=some (.cells #[.int .i64 0,.slice none 0 0] 43 (0,0)):=((I.block _ (by have:=zf b6.out;have:=s.out.size;omega) (fun q=>by have:=d3.out _ q;omega)).trans (s.out.block _ (zf b6.out))).trans b6.out
 have e3:Below B W d:=(s.out.mono (by have:=Y.out.size;omega)).trans (I.toBelow (by have:=Y.out.size;have:=s.out.size;omega) HU.out)
 have d9:VarsC B l.drew:=((g5.out.on e3).on (b5.mono (by have:=I.size;have:=s.out.size;have:=Y.out.size;omega))).on ((Below.refl _ _).drew)
 have HT:Hid (Calls Tryz.prog 25 #[ev] l.drew fun e f=>e=.returned (.int .i64 (tellN r.err:Int))/\(Below d.heap.size d f/\f.heap[w.heap.size+1]?=some (.cells #[.int .i64 0,.slice none 0 0] 43 (0,0)))/\(f.cell? ⟨d.heap.size,0,none⟩=some (.int .i64 (r.e.way:Int))/\f.cell? ⟨d.heap.size,1,none⟩=some (.slice i k o))):=by
  have hd:Below d.heap.size d l.drew:=b5.drew
  refine(x7 (b2:=0) c7 (by omega) (Ext.below hd) d9.et).mono ?_
  rintro e f⟨h1,h2⟩
  have G:Below d.heap.size d f:=hd.trans (h2.mono hd.size)
  have e8:Below l.heap.size l f:=((Below.refl l.heap.size l).drew).trans h2
  have d6:=(e8.block _ (zf C)).trans C
  exact⟨h1,⟨G,(G.block _ (zf a5)).trans a5⟩,(za d6).trans rfl,(za d6).trans rfl⟩
 have f7:Hid (l.drew.cell? ⟨d.heap.size,0,none⟩=some (.int .i64 (r.e.way:Int))/\l.drew.cell? ⟨d.heap.size,1,none⟩=some (.slice i k o)):=⟨(za C).trans rfl,(za C).trans rfl⟩
 have i3:=zf C
 have a6:Hid (d.heap.size≠w.heap.size+1):=by have:=zf a5;show _≠_;omega
 have e7:Hid (AnsP (fun b=>X b\/b=w.heap.size+1) U c W y r i d):=⟨⟨U',b9,Tr.ahead s.out I⟩,A.it,A.oi,A.ol,fun x hx=>by have:=A.far x hx;have:=s.out.size;omega⟩
 have g3:=zh b7
 rw[<-b7]
 clear b5 C b9 I a5 e3 d9 c7 A b7 HC e9 f9 g6 g0 f4 g8 b0
 generalize V:tellN r.err=tl at *
 have h4:=zh V
 clear V
 generalize c1:r.e.way=wy at *
 have g9:=zh c1
 clear c1
 go_upto_region 10 with fail
 rw[<-a7]
 clear a7
 go_region_held3 (fun w'=>w'.cell? ⟨d.heap.size,0,none⟩=some (.int .i64 (wy:Int))/\w'.cell? ⟨d.heap.size,1,none⟩=some (.slice i k o)) (with_reducible (first|exact g1.out|exact g2.out|exact f7.out)) (first|(go_at_call 25;refine HT.out.mono ?_;rintro e f ⟨rfl,⟨G,D⟩,a9⟩;have h5:=zh G;have h0:=zh D;have g2:=zh a9;have e0:f.cell? ⟨w.heap.size+1,0,none⟩=some (.int .i64 0):=(za D).trans rfl;have h9:f.cell? ⟨w.heap.size+1,1,none⟩=some (.slice none 0 0):=(za D).trans rfl;have ez:∀j,f.frozen? ⟨w.heap.size+1,j,none⟩=false:=fun j=>zi D;have i2:=zf D;have g1:Hid (((f.setCell ⟨w.heap.size+1,0,none⟩ (.int .i64 (wy:Int))).setCell ⟨w.heap.size+1,1,none⟩ (.slice i k o)).cell? ⟨d.heap.size,0,none⟩=some (.int .i64 (wy:Int))/\((f.setCell ⟨w.heap.size+1,0,none⟩ (.int .i64 (wy:Int))).setCell ⟨w.heap.size+1,1,none⟩ (.slice i k o)).cell? ⟨d.heap.size,1,none⟩=some (.slice i k o)):=⟨(World.cell?_of_block (w:=f) ((zx _ a6.out).trans (zx _ a6.out))).trans a9.1,(World.cell?_of_block (w:=f) ((zx _ a6.out).trans (zx _ a6.out))).trans a9.2⟩;clear G D a9))
 have b3:=zu 1 (.slice i k o) (zu 0 (.int .i64 (wy:Int)) h0.out)
 obtain⟨E,a8⟩:∃E,E=(f.setCell ⟨w.heap.size+1,0,none⟩ (.int .i64 (wy:Int))).setCell ⟨w.heap.size+1,1,none⟩ (.slice i k o):=⟨_,rfl⟩
 have f0:E.cell? ⟨w.heap.size+1,0,none⟩=some (.int .i64 (wy:Int)):=by rw[a8];exact(za b3).trans rfl
 have f1:E.cell? ⟨w.heap.size+1,1,none⟩=some (.slice i k o):=by rw[a8];exact(za b3).trans rfl
 have f8:Hid (Ext (w.heap.size+1) f E):=by rw[a8];exact((Ext.refl _ _).set 0 _).set 1 _
 clear b3
 have f3:Hid (AnsP X U c w y r i E):=xT Y.out (by omega) (by have:=c2.out;omega) e7.out h5.out f8.out
 go_wp2_with fail
 rw[<-a8]
 exact bodyPost_ret (v:=.tuple #[.agg #[.int .i64 (wy:Int),.slice i k o],.int .i64 0,.int .i64 (tl:Int)]) (by simp[results,Tryz.results11,go_sem,f0,f1]) rfl (⟨i,o,by rw[g9.out,f6.out,h4.out,<-g3.out],f3.out⟩)
theorem act_post {X U:Nat->Prop}{c B:Nat}{w:World}{o fuel ac:Nat}{t:Option Addr}{P:List Pt}{a:Ac}(k:VarsC B w)(g:B<=w.heap.size)(l:∀b,U b->B<=b)(n:∀b,X b->b<w.heap.size)(h:WZ X U c w o P)(j:c<=80)(s:fuel<=800000)(p:a.text.length<=1000)(u:a.name.length<=1000000)(x:∀v∈a.args,Tp.I64 v)(y:IntsAt w a.args t)(z:a.args.length<=1000000) :
  Calls Tryz.prog 11 #[.pointer (some ⟨o,0,none⟩),.agg (acells a t ac),.int .i64 (fuel:Int)] w fun e w'=>∃r,ActIs P a fuel r/\ActQ X U c w o r e w':=by
 by_cases d:a.what=1
 ·exact(act_call k g l n h j d s u x y z).mono (fun e w' q=>⟨_,by unfold ActIs;rw[if_pos d],q⟩)
 ·cases f:Tp.parse a.text with
  |error er=>exact(act_bad k g l n h j d f (by omega)).mono (fun e w' q=>⟨_,by unfold ActIs;rw[if_neg d,f],q⟩)
  |ok m =>
   by_cases i:a.what=2
   ·exact(act_swap k g l n h j i f p).mono (fun e w' q=>⟨_,by unfold ActIs;rw[if_neg d,f];simp[i],q⟩)
   ·exact(act_load k g l n h j d i f p s).mono (fun e w' q=>⟨_,by unfold ActIs;rw[if_neg d,f];simp[i],q⟩)
end Go.Proofs.YtibncofnnlbmcaaGreatDoor
namespace Go.Proofs.YtibncofnnlbmcaaGreatDoor
open Go.RowKit
open Tp (Bs)
open Go.Deep
structure ActAt (w:World) (l:List Ac) (a:Option Addr):Prop where
 c:∀i (h:i<l.length),∃b o aa ac,a=some ⟨b,o,none⟩/\(∀j,j<5->w.cell? ⟨b,o+(i*5+j),none⟩=(acells l[i] aa ac)[j]?)/\IntsAt w l[i].args aa/\∀v∈l[i].args,Tp.I64 v
theorem ActAt.on {w w':World}{l:List Ac}{a:Option Addr}(h:ActAt w l a)(k:Below w.heap.size w w'):ActAt w' l a:=by
 refine⟨fun i e=>?_⟩
 obtain⟨b,o,g,ac,n,d,m,r⟩:=h.c i e
 have f:b<w.heap.size:=zg (d 0 (by omega))
 exact⟨b,o,g,ac,n,fun j q=>(k.cell (p:=⟨b,o+(i*5+j),none⟩) f).trans (d j q),m.on k,r⟩
section
variable {H:Type} {enc:TypeId×Value->H} {P:Program} {w:World} {base:Nat} {spare:Nat->Bool} {held:Bool}
theorem ud {α:Type}{P:Nat->α->Prop}:∀(n:Nat),(∀i,i<n->∃x,P i x)->∃l:List α,l.length=n/\∀i (h:i<l.length),P i l[i]:=by
 intro n
 induction n with
 |zero=>intro _;exact⟨[],rfl,fun i h=>by simp at h⟩
 |succ n ih =>
  intro h
  obtain⟨l,c,d⟩:=ih (fun i b=>h i (by omega))
  obtain⟨x,e⟩:=h n (by omega)
  refine⟨l++[x],by simp[c],fun i b=>?_⟩
  by_cases a:i<l.length
  ·rw[List.getElem_append_left a];exact d i a
  ·have:i=l.length:=by simp at b;omega
   subst this
   rw[List.getElem_append_right (by omega)]
   simp only[Nat.sub_self,List.getElem_cons_zero]
   rw[c];exact e
theorem open_rows {t e:TypeId}{fs:Array Field}{fuel:Nat}{cs:List Value}{x:DataW H×List MemPlace}(J:P.underlying t=some (.slice e))(I:P.underlying e=some (.struct fs))
  (A:∀(i:Nat) (f:Field),fs[i]?=some f->f.offset=i/\P.cellsOf f.type=1)(s:P.cellsOf e=fs.size)(C:0<fs.size)(h:DataW.trod enc P w base spare held fuel t cs=some x) :
  ∃(a:Option Addr) (len cap:Nat),cs=[.slice a len cap]/\∀i,i<len->∃(b o n:Nat) (V:Nat->Value),a=some ⟨b,o,none⟩ /\
   ∀(j:Nat) (f:Field),fs[j]?=some f->w.cell? ⟨b,o+(i*fs.size+j),none⟩=some (V j)/\∃y,DataW.trod enc P w base spare held n f.type [V j]=some y:=by
 rcases open_slice J h with⟨rfl,_⟩|⟨a,len,cap,m,n,D,Pl,rfl,hb,hlc,hcm,hm,_,hall⟩
 ·exact⟨none,0,0,rfl,fun i N=>by omega⟩
 ·refine⟨some a,len,cap,rfl,fun i N=>?_⟩
  have F:i<m:=by rw[hm];split<;>omega
  have p:a.spot=none:=by
   obtain⟨U,Q,W⟩:=hall 0 (by omega)
   obtain⟨_,z,k⟩:=World.cells?_some Q
   rw[s]at z k
   have u:=k 0 C
   rw[List.getElem?_eq_getElem (by omega)]at u
   simpa[Addr.add] using World.cell?_spot u
  obtain⟨c,K,O⟩:=hall i F
  obtain⟨_,B,l⟩:=World.cells?_some K
  rw[s]at B l
  obtain⟨X,R,_,_,_,T,M⟩:=DataW.trod_struct I O
  obtain⟨b,o,S⟩:=a
  simp only at p
  subst p
  refine⟨b,o,R,fun j=>c.getD j undef,rfl,fun j f g=>?_⟩
  have E:j<fs.size:=(Array.getElem?_eq_some_iff.1 g).1
  obtain⟨L,v⟩:=A j f g
  have q:=l j E
  rw[List.getElem?_eq_getElem (by omega)]at q
  have r:c.getD j undef=c[j]'(by omega):=by simp[List.getD,List.getElem?_eq_getElem (show j<c.length by omega)]
  have d:=M j f g
  rw[L,v]at d
  have G:(c.drop j).take 1=[c[j]'(by omega)]:=by
   rw[List.drop_eq_getElem_cons (by omega)];rfl
  rw[G,List.getElem?_eq_getElem (by omega)]at d
  refine⟨?_,_,by simp only[r];exact d⟩
  simp only[r]
  rw[<-q,Addr.add_lit,Addr.add_lit,Nat.add_assoc]
theorem bs_data (s:ByteArray):bs s.data.toList=s:=by simp[bs]
theorem xE {t:TypeId}{fuel:Nat}{v:Value}{x:DataW H×List MemPlace}(b:P.underlying t=some .string)(h:DataW.trod enc P w base spare held fuel t [v]=some x):∃s:Bs,v=.string (bs s):=by
 obtain⟨s,a,_⟩:=DataW.trod_string b h
 simp at a
 exact⟨s.data.toList,by rw[a,bs_data]⟩
theorem open_i64 {t:TypeId}{fuel:Nat}{v:Value}{x:DataW H×List MemPlace}(c:P.underlying t=some (.int .i64))(h:DataW.trod enc P w base spare held fuel t [v]=some x):∃n:Int,v=.int .i64 n/\Tp.I64 n:=by
 obtain⟨n,a,_,b⟩:=DataW.trod_int c h
 simp at a
 refine⟨n,a,?_⟩
 simp only[Lit.wf,IntKind.min,IntKind.max,IntKind.signed,IntKind.bits,Bool.and_eq_true,decide_eq_true_eq,if_true]at b
 unfold Tp.I64
 omega
theorem open_nums {t e:TypeId}{fuel:Nat}{v:Value}{x:DataW H×List MemPlace}(I:P.underlying t=some (.slice e))(G:P.underlying e=some (.int .i64))(B:P.cellsOf e=1)(h:DataW.trod enc P w base spare held fuel t [v]=some x) :
  ∃(xs:List Int) (a:Option Addr) (cap:Nat),v=.slice a xs.length cap/\IntsAt w xs a/\∀n∈xs,Tp.I64 n:=by
 rcases open_slice I h with⟨d,_⟩|⟨a,len,cap,m,n,D,Pl,d,hb,hlc,hcm,hm,_,hall⟩
 ·simp at d
  exact⟨[],none,0,d,⟨fun i c=>by simp at c⟩,fun n M=>by cases M⟩
 ·simp at d
  have key:∀i,i<len->∃k:Int,(∃b o,a=⟨b,o,none⟩/\w.cell? ⟨b,o+i,none⟩=some (.int .i64 k))/\Tp.I64 k:=by
   intro i c
   have F:i<m:=by rw[hm];split<;>omega
   obtain⟨r,Q,L⟩:=hall i F
   obtain⟨_,q,j⟩:=World.cells?_some Q
   rw[B]at q j
   have A:=j 0 (by omega)
   obtain⟨f,E⟩:∃f,r=[f]:=by
    match r,q with
    |[f],_=>exact⟨f,rfl⟩
   subst E
   obtain⟨k,g,C⟩:=open_i64 G L
   subst g
   have p:a.spot=none:=by
    obtain⟨S,J,_⟩:=hall 0 (by omega)
    obtain⟨_,O,z⟩:=World.cells?_some J
    rw[B]at O z
    have s:=z 0 (by omega)
    rw[List.getElem?_eq_getElem (by omega)]at s
    simpa[Addr.add] using World.cell?_spot s
   obtain⟨b,o,R⟩:=a
   simp only at p
   subst p
   refine⟨k,⟨b,o,rfl,?_⟩,C⟩
   rw[Addr.add_lit,Addr.add_lit,Nat.mul_one]at A
   simpa using A
  obtain⟨l,K,y⟩:=ud len key
  refine⟨l,some a,cap,by rw[d,K],⟨fun i c=>?_⟩,fun k g=>?_⟩
  ·obtain⟨⟨b,o,N,u⟩,_⟩:=y i c
   exact⟨b,o,by rw[N],zg u,u⟩
  ·obtain⟨i,c,rfl⟩:=List.getElem_of_mem g
   exact(y i c).2
end
theorem acts_at {H:Type}{enc:TypeId×Value->H}{W:World}{a:Option Addr}{n c:Nat}{d:DataW H}{p:List MemPlace}(h:DataW.Trod enc Tryz.prog W 0 (fun _=>true) true 22 (.slice a n c) d p):∃l:List Ac,l.length=n/\ActAt W l a:=by
 obtain⟨fuel,f⟩:=h
 obtain⟨N,M,cap,q,z⟩:=open_rows Tryz.underlying22 Tryz.underlying31 (hone_of (by kernel_rfl)) (by kernel_rfl) (by decide) f
 simp[Value.cells]at q
 obtain⟨rfl,rfl,rfl⟩:=q
 obtain⟨l,u,D⟩:=ud (P:=fun i (x:Ac)=>∃b o g ac,a=some ⟨b,o,none⟩/\(∀j,j<5->W.cell? ⟨b,o+(i*5+j),none⟩=(acells x g ac)[j]?)/\IntsAt W x.args g/\∀v∈x.args,Tp.I64 v) n (fun i m=>by
  obtain⟨b,o,k,V,e,f⟩:=z i m
  obtain⟨L,O,y⟩:=f 0 _ rfl
  obtain⟨c1,R,t1⟩:=f 1 _ rfl
  obtain⟨c2,S,t2⟩:=f 2 _ rfl
  obtain⟨c3,Q,t3⟩:=f 3 _ rfl
  obtain⟨F,T,w⟩:=f 4 _ rfl
  obtain⟨E,G,_⟩:=open_i64 Tryz.underlying3 y
  obtain⟨tx,B⟩:=xE Tryz.underlying9 t1
  obtain⟨nm,C⟩:=xE Tryz.underlying9 t2
  obtain⟨J,t⟩:=xE Tryz.underlying9 t3
  obtain⟨K,g,ac,I,s,r⟩:=open_nums Tryz.underlying29 Tryz.underlying2 (by kernel_rfl) w
  refine⟨⟨E,tx,nm,J,K⟩,b,o,g,ac,e,fun j A=>?_,s,r⟩
  match j,A with
  | 0,_=>exact L.trans (by rw[G];rfl)
  | 1,_=>exact c1.trans (by rw[B];rfl)
  | 2,_=>exact c2.trans (by rw[C];rfl)
  | 3,_=>exact c3.trans (by rw[t];rfl)
  | 4,_=>exact F.trans (by rw[I];rfl))
 exact⟨l,u,⟨fun i m=>D i m⟩⟩
end Go.Proofs.YtibncofnnlbmcaaGreatDoor
