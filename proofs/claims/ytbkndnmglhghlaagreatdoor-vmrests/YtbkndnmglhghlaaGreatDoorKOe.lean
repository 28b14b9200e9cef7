import Derived.Test.YtbkndnmglhghlaaGreatDoorKOd
import Derived.Test.YtbkndnmglhghlaaGreatDoorKJd
set_option maxRecDepth 100000
set_option maxHeartbeats 4000000

namespace Go.Proofs.YtbkndnmglhghlaaGreatDoor
open Go.RowKit Go.Maps
open Tp (Bs Sy G Pr Seen)
theorem SL.less {w:World}{B B':Nat}{v:Value}{l:List Sy}(h:SL w B v l)(a:B'<=B):SL w B' v l:=by
 rcases h with q|⟨g,cap,b,c,d⟩
 ·exact Or.inl q
 ·exact Or.inr ⟨g,cap,b,Nat.le_trans a c,d⟩
def OutR (w:World) (m:Tp.M) (S:Seen) (e:Ending) (w':World):Prop:=∃ob s u v n,e=.returned (.pointer (some ⟨ob,0,none⟩))/\OutP w w' ob m S s u v n
theorem x7 {w:World}{m:Tp.M}(hm:Tp.WM m)(i4:m.imports.length=0){I A B F:Option Addr}{J H K G:Nat}(hb:MB w w.heap.size m I A B F J H K G)(sv:Value)(S:Seen) :
  Calls Tryz.prog 43 #[.agg #[.string (bs m.name),.slice I m.imports.length J,.slice A m.vars.length H,.slice B m.procs.length K,.slice F m.body.length G],sv] w (OutR w m S):=by
 obtain⟨f,c1⟩:∃f,f=w.alloc (.cells #[.string (bs m.name),.slice I m.imports.length J,.slice A m.vars.length H,.slice B m.procs.length K,.slice F m.body.length G] 66):=⟨_,rfl⟩
 have c6:Below w.heap.size w f:=by rw[c1];exact zb _ _
 have e3:f.heap[w.heap.size]?=some (.cells #[.string (bs m.name),.slice I m.imports.length J,.slice A m.vars.length H,.slice B m.procs.length K,.slice F m.body.length G] 66 (0,0)):=by rw[c1];exact zl _ _
 have a6:w.heap.size<f.heap.size:=zc e3
 have a2:Hid (∀W,Below f.heap.size f W->W.cell? ⟨w.heap.size,0,none⟩=some (.string (bs m.name))/\W.cell? ⟨w.heap.size,1,none⟩=some (.slice I m.imports.length J)/\W.cell? ⟨w.heap.size,2,none⟩=some (.slice A m.vars.length H)/\W.cell? ⟨w.heap.size,3,none⟩=some (.slice B m.procs.length K)/\W.cell? ⟨w.heap.size,4,none⟩=some (.slice F m.body.length G)):=fun W Q=>zW ((Q.block _ a6).trans e3)
 have g1:MB f w.heap.size m I A B F J H K G:=hb.on c6
 have g3:∀W,Below f.heap.size f W->MB W w.heap.size m I A B F J H K G:=fun W Q=>g1.on (Q.mono (Nat.le_of_lt a6))
 have g2:∀W,Below f.heap.size f W->MB W W.heap.size m I A B F J H K G:=fun W Q=>hb.up (c6.trans (Q.mono (Nat.le_of_lt a6)))
 have e0:Hid (∀W,Below f.heap.size f W->Calls Tryz.prog 91 #[.agg #[.string (bs m.name),.slice I m.imports.length J,.slice A m.vars.length H,.slice B m.procs.length K,.slice F m.body.length G]] W fun e w'=>∃a c,e=.returned (.slice a (srt (Tp.symsOf m)).length c)/\Below W.heap.size W w'/\SL w' W.heap.size (.slice a (srt (Tp.symsOf m)).length c) (srt (Tp.symsOf m))):=fun W Q=>by
  refine(of_post hm.gc hm.pc (g2 W Q)).mono ?_
  rintro e w'⟨v,rfl,h1,h2⟩
  obtain⟨a,c,rfl⟩:=h2.len
  exact⟨a,c,rfl,h1,h2⟩
 have h0:Hid (∀W,Below f.heap.size f W->MB W w.heap.size m I A B F J H K G):=g3
 have m6:=zh c6
 have m3:(m.imports.length:Int)<=6:=by have:=hm.ic;omega
 have m2:(m.vars.length:Int)<=10:=by have:=hm.gc;omega
 have m5:(m.procs.length:Int)<=10:=by have:=hm.pc;omega
 have m8:=zh i4
 clear hm i4 hb c6 e3 g1 g3 g2
 obtain⟨X,d0⟩:∃X,X=m.imports.length:=⟨_,rfl⟩
 obtain⟨N,b4⟩:∃N,N=m.vars.length:=⟨_,rfl⟩
 obtain⟨O,d1⟩:∃O,O=m.procs.length:=⟨_,rfl⟩
 obtain⟨bl,h9⟩:∃bl,bl=m.body.length:=⟨_,rfl⟩
 obtain⟨sl,i6⟩:∃sl,sl=(srt (Tp.symsOf m)).length:=⟨_,rfl⟩
 obtain⟨nm,e6⟩:∃nm,nm=bs m.name:=⟨_,rfl⟩
 rw[<-d0,<-b4,<-d1,<-h9,<-e6]at a2 e0 c1 ⊢
 rw[<-i6]at e0
 rw[<-d0]at m3
 rw[<-b4]at m2
 rw[<-d1]at m5
 have g7:=zh d0
 have g6:=zh b4
 have h3:=zh d1
 have n0:=zh e6
 clear d0 b4 d1 h9 i6 e6
 obtain⟨k0,k1,k2,k3,k4⟩:=a2.out f (Below.refl _ _)
 have h4:Hid (f.drew.cell? ⟨w.heap.size,0,none⟩=some (.string nm)/\f.drew.cell? ⟨w.heap.size,1,none⟩=some (.slice I X J)/\f.drew.cell? ⟨w.heap.size,2,none⟩=some (.slice A N H)/\f.drew.cell? ⟨w.heap.size,3,none⟩=some (.slice B O K)/\f.drew.cell? ⟨w.heap.size,4,none⟩=some (.slice F bl G)):=a2.out _ (zt f)
 have c4:Hid (Below f.heap.size f f.drew):=zt f
 go_enter Tryz.func43,Tryz.ntmps43
 go_upto_region 1 with fail
 rw[<-c1]
 clear c1
 go_region_held3 (fun W=>W.cell? ⟨w.heap.size,0,none⟩=some (.string nm)/\W.cell? ⟨w.heap.size,1,none⟩=some (.slice I X J)/\W.cell? ⟨w.heap.size,2,none⟩=some (.slice A N H)/\W.cell? ⟨w.heap.size,3,none⟩=some (.slice B O K)/\W.cell? ⟨w.heap.size,4,none⟩=some (.slice F bl G)) (with_reducible (first|exact h6.out _|exact h5.out|exact h4.out)) (first|(go_at_call 91;refine(e0.out _ c4.out).mono ?_;rintro e x ⟨t,sc,rfl,h8,i5⟩;have a3:Hid (Below f.heap.size f x):=c4.out.trans (h8.mono c4.out.size);have h5:=zh (a2.out x a3.out);have h6:Hid (∀o,(x.alloc o).cell? ⟨w.heap.size,0,none⟩=some (.string nm)/\(x.alloc o).cell? ⟨w.heap.size,1,none⟩=some (.slice I X J)/\(x.alloc o).cell? ⟨w.heap.size,2,none⟩=some (.slice A N H)/\(x.alloc o).cell? ⟨w.heap.size,3,none⟩=some (.slice B O K)/\(x.alloc o).cell? ⟨w.heap.size,4,none⟩=some (.slice F bl G)):=fun o=>a2.out _ (a3.out.alloc a3.out.size o);have n1:=zh i5;clear h8 i5))
 obtain⟨T,c2⟩:∃T,T=x.alloc (.cells (oc5 nm (.slice t sl sc) (.slice none 0 0) (.slice none 0 0) (.slice none 0 0)) 49):=⟨_,rfl⟩
 have f6:Hid (Below x.heap.size x T):=by rw[c2];exact zb _ _
 have g4:Hid (Below f.heap.size f T):=a3.out.trans (f6.out.mono a3.out.size)
 have e4:T.heap[x.heap.size]?=some (.cells (oc5 nm (.slice t sl sc) (.slice none 0 0) (.slice none 0 0) (.slice none 0 0)) 49 (0,0)):=by rw[c2];exact zl _ _
 have d9:Hid (x.heap.size<T.heap.size):=zc e4
 have b2:Hid (f.heap.size<=x.heap.size):=a3.out.size
 have g8:Hid (L1 m (fun n=>Tp.needsS ((S n).getD []) (uS m n)) T x.heap.size (.slice t sl sc) 0 T):=⟨.slice none 0 0,[],Ext.refl _ _,by rw[<-n0.out];exact e4,World.ownsRow_nil _ _ _ _,fun i hi=>by simp at hi⟩
 obtain⟨q0,y,L,q3,q4⟩:=a2.out T g4.out
 clear e4 h4 h5 h6 k0 k1 k2 k3 k4 c4
 simp only[oc5]at c2
 first|rw[<-c2]|trace_state
 clear c2
 obtain⟨b,e7⟩:∃b,b=x.heap.size:=⟨_,rfl⟩
 rw[<-e7]at d9 b2 g8 ⊢
 have m0:=zh e7
 clear e7
 go_wp2_with fail
 go_loopg [21] X (fun k vi wr=>∃i:Nat,i<=X/\k=X-i/\vi=.int .i64 (i:Int)/\Hid (L1 m (fun n=>Tp.needsS ((S n).getD []) (uS m n)) T b (.slice t sl sc) i wr))
 case atStart=>exact⟨0,by omega,by omega,rfl,g8⟩
 case round =>
  obtain⟨i,p9,hk,rfl,U⟩:=hrel
  by_cases o1:i<X
  ·exact absurd o1 (by have:=g7.out;have:=m8.out;omega)
  ·have p1:¬(i:Int)<(X:Int):=by omega
   have i0:i=m.imports.length:=by have:=g7.out;omega
   obtain⟨R,r8,r,x2,x3,x4⟩:=U.out
   have c7:Below f.heap.size f wr:=g4.out.trans (zT r b2.out (Nat.le_trans b2.out (Nat.le_of_lt d9.out)))
   have p7:Hid (T.heap.size<=wr.heap.size):=r.size
   rw[i0]at x3 x4
   obtain⟨j0,j1,j2,j3,j4⟩:=a2.out wr c7
   have b7:=zh r
   have Z:=zh x3
   have n2:=zh x4
   have g9:Hid (L2 m wr b (.slice t sl sc) R 0 wr):=⟨.slice none 0 0,Ext.refl _ _,x2,by rw[List.take_zero];exact World.ownsRow_nil _ _ _ _⟩
   have c3:=zh c7
   have f7:Hid (b<wr.heap.size):=zc x2
   have r5:w.heap.size<wr.heap.size:=Nat.lt_of_lt_of_le a6 c7.size
   rename World=>wN
   clear r x2 x3 x4 c7 U q0 y L q3 q4 i0
   go_wp2_with fail
   go_loopg [46] N (fun k vi wr=>∃i:Nat,i<=N/\k=N-i/\vi=.int .i64 (i:Int)/\Hid (L2 m wN b (.slice t sl sc) R i wr))
   case atStart=>exact⟨0,by omega,by omega,rfl,g9⟩
   case round =>
    obtain⟨h,o9,r0,rfl,U⟩:=hrel
    by_cases p2:h<N
    ·have i8:(h:Int)<(N:Int):=by omega
     have c0:h<m.vars.length:=by have:=g6.out;omega
     obtain⟨vv,r,x2,x3⟩:=U.out
     obtain⟨va,vc,o3⟩:=z7 x3
     subst o3
     have a4:Below f.heap.size f wr:=c3.out.trans (zT r b2.out c3.out.size)
     obtain⟨g,cap,e1,n8,b4,b9⟩:=yI (h0.out wr a4).gl (by omega)
     have d5:A=some ⟨g,0,none⟩:=by cases e1;rfl
     have E:=fun j (V:j<4)=>(b9 (h*4+j) (by omega)).trans (uA m.vars h c0 j V)
     have a8:wr.cell? ⟨g,h*4,none⟩=some (.string (bs m.vars[h].name)):=E 0 (by omega)
     have a9:wr.cell? ⟨g,h*4+1,none⟩=some (.int .i64 (m.vars[h].pos:Int)):=E 1 (by omega)
     have b0:wr.cell? ⟨g,h*4+2,none⟩=some (.int .i64 (m.vars[h].len:Int)):=E 2 (by omega)
     have b1:wr.cell? ⟨g,h*4+3,none⟩=some (.bool m.vars[h].seen):=E 3 (by omega)
     subst d5
     have b7:=zh r
     have b8:=zh x2
     have Z:=zh x3
     have m7:=zh a4
     have P:b<wr.heap.size:=zc x2
     obtain⟨i1,hi,f1,f2,f3⟩:=info_parts Tryz.infoGlobal5
     obtain⟨gx,c9⟩:∃gx,gx=m.vars[h]:=⟨_,rfl⟩
     rw[<-c9]at a8 a9 b0 b1
     have p6:=zh c9
     obtain⟨s,a7⟩:∃s,s=bs gx.name:=⟨_,rfl⟩
     obtain⟨xp,i7⟩:∃xp:Int,xp=(gx.pos:Int):=⟨_,rfl⟩
     obtain⟨xl,e9⟩:∃xl:Int,xl=(gx.len:Int):=⟨_,rfl⟩
     obtain⟨xs,f0⟩:∃xs,xs=gx.seen:=⟨_,rfl⟩
     rw[<-a7]at a8
     rw[<-i7]at a9
     rw[<-e9]at b0
     rw[<-f0]at b1
     have HV:Hid ([Value.string s,.int .i64 0,.int .i64 xl,.bool xs]=g0V m.vars[h]):=by rw[a7,e9,f0,c9];rfl
     obtain⟨q,a1⟩:∃q,q=wr.alloc (.cells #[.string s,.int .i64 xp,.int .i64 xl,.bool xs] 57):=⟨_,rfl⟩
     have a0:Below wr.heap.size wr q:=by rw[a1];exact zb _ _
     have b5:q.heap[wr.heap.size]?=some (.cells #[.string s,.int .i64 xp,.int .i64 xl,.bool xs] 57 (0,0)):=by rw[a1];exact zl _ _
     have o0:wr.heap.size<q.heap.size:=zc b5
     have o5:q.cell? ⟨wr.heap.size,1,none⟩=some (.int .i64 xp):=(za b5).trans rfl
     have o7:q.frozen? ⟨wr.heap.size,1,none⟩=false:=zi b5
     obtain⟨z,d3⟩:∃z,z=q.setCell ⟨wr.heap.size,1,none⟩ (.int .i64 0):=⟨_,rfl⟩
     have b3:Below wr.heap.size wr z:=by rw[d3];exact a0.setCell zn _
     have b6:z.heap[wr.heap.size]?=some (.cells #[.string s,.int .i64 0,.int .i64 xl,.bool xs] 57 (0,0)):=by rw[d3];exact zy 1 (.int .i64 0) b5
     have y0:z.cell? ⟨wr.heap.size,0,none⟩=some (.string s):=(za b6).trans rfl
     have y1:z.cell? ⟨wr.heap.size,1,none⟩=some (.int .i64 0):=(za b6).trans rfl
     have y2:z.cell? ⟨wr.heap.size,2,none⟩=some (.int .i64 xl):=(za b6).trans rfl
     have y3:z.cell? ⟨wr.heap.size,3,none⟩=some (.bool xs):=(za b6).trans rfl
     have r3:wr.heap.size<z.heap.size:=zc b6
     have k3:z.cell? ⟨b,3,none⟩=some (.slice va h vc):=(b3.cell (p:=⟨b,3,none⟩) P).trans ((za x2).trans rfl)
     have o4:∀o,(z.alloc o).cell? ⟨b,3,none⟩=some (.slice va h vc):=fun o=>((b3.alloc b3.size o).cell (p:=⟨b,3,none⟩) P).trans ((za x2).trans rfl)
     have p5:b<z.heap.size:=Nat.lt_of_lt_of_le P b3.size
     have D:=zh b3
     have n9:(h:Int)<=10:=by omega
     have d8:Hid (wN.heap.size<=wr.heap.size):=r.size
     have d4:Hid (∀wx l v5,Below wr.heap.size wr wx->l.ownsRow wN.heap.size 57 4 v5 (h+1) (g0s (m.vars.take h)++[.string s,.int .i64 0,.int .i64 xl,.bool xs])->wx.grownBy l (Value.slice va h vc).ownBlock->l.cell? ⟨b,3,none⟩=some (.slice va h vc)/\l.frozen? ⟨b,3,none⟩=false/\L2 m wN b (.slice t sl sc) R (h+1) (l.setCell ⟨b,3,none⟩ v5)):=fun wx l v5 hx y L=>by
      have d7:∀k,(Value.slice va h vc).ownBlock=some k->wN.heap.size<=k:=fun k hk=>(Z.out.lt k hk).1
      have m4:=f7.out
      have e5:l.heap[b]?=some (.cells (oc5 (bs m.name) (.slice t sl sc) R (.slice va h vc) (.slice none 0 0)) 49 (0,0)):=(L.block b (Nat.lt_of_lt_of_le P hx.size) (fun e=>by have:=d7 b e.symm;omega)).trans ((hx.block b P).trans b8.out)
      rw[HV.out]at y
      exact⟨(za e5).trans rfl,zi e5,l2_next c0 f7.out b7.out b8.out Z.out hx y L⟩
     have e2:Hid (∀W,Below wr.heap.size wr W->W.ownsRow wN.heap.size 57 4 (.slice va h vc) h (g0s (m.vars.take h))):=fun W Q=>yP Z.out Q
     clear r x2 x3 a4 b9 e1 E c9 a7 i7 e9 f0 a0 b5 b6 b3 HV
     go_upto_region 10 with fail
     rw[<-a1]
     clear a1 a8 a9 b0 b1
     go_upto_region 11 with fail
     rw[<-d3]
     clear d3 o5 o7
     go_region_law (first|(refine zE rfl (.tmp 55) (.tmp 57) 44 rfl wN.heap.size 57 i1 (.agg #[.string ⟨#[]⟩,.int .i64 0,.int .i64 0,.bool false]) 4 40 Tryz.underlying44 hi f1 f2 f3 rfl (by decide) (.slice va h vc) h (g0s (m.vars.take h)) (by simp[Act.eval]) ?own ⟨z.heap.size,0,none⟩ 1 1 [.string s,.int .i64 0,.int .i64 xl,.bool xs] (by simp[Act.eval]) rfl ?news (by intro u hu;simp at hu;rcases hu with rfl|rfl|rfl|rfl<;>rfl) (by unfold maxLen;omega) (by omega) ?base ?_;(case own=>exact e2.out _ (by first|exact D.out.alloc D.out.size _|exact D.out.drew.alloc D.out.size _|exact(D.out.alloc D.out.size _).drew));(case news=>(intro j u V;rw[Addr.add_lit];first|exact((za (zl z _)).trans (by simpa using V))|exact((za (zl z.drew _)).trans (by simpa using V))));(case base=>have:=d8.out;have:=D.out.size;simp;omega);intro v5 l y L q3;obtain⟨a5,c5,e8⟩:=z7 y;subst e8;have Y:=d4.out _ l _ (by first|exact D.out.alloc D.out.size _|exact D.out.drew.alloc D.out.size _|exact(D.out.alloc D.out.size _).drew) y L;have k5:l.cell? ⟨b,3,none⟩=some (.slice va h vc):=Y.1;have z5:l.frozen? ⟨b,3,none⟩=false:=Y.2.1;have l5:b<l.heap.size:=zg k5;have HF:Hid (L2 m wN b (.slice t sl sc) R (h+1) (l.setCell ⟨b,3,none⟩ (.slice a5 (h+1) c5))):=Y.2.2;clear Y y L q3))
     all_goals
      go_wp2_with fail
      go_roundg (N-(h+1))
      case measure=>omega
      case rel=>exact⟨h+1,by omega,rfl,by go_num,HF⟩
    ·have i8:¬(h:Int)<(N:Int):=by omega
     have f9:h=m.vars.length:=by have:=g6.out;omega
     obtain⟨vv,r,x2,x3⟩:=U.out
     have c8:Below f.heap.size f wr:=c3.out.trans (zT r b2.out c3.out.size)
     rw[f9]at x3
     obtain⟨j0,j1,j2,j3,j4⟩:=a2.out wr c8
     have n6:=zh r
     have n7:=zh x3
     have m9:Hid (L3 m wr b (.slice t sl sc) R vv 0 wr):=⟨.slice none 0 0,Ext.refl _ _,x2,by rw[List.take_zero];exact World.ownsRow_nil _ _ _ _⟩
     have g5:=zh c8
     have f8:Hid (b<wr.heap.size):=zc x2
     have r4:w.heap.size<wr.heap.size:=Nat.lt_of_lt_of_le a6 c8.size
     rename World=>wO
     clear r x2 x3 c8 U f9 g9
     go_wp2_with fail
     go_loopg [65] O (fun k vi wr=>∃i:Nat,i<=O/\k=O-i/\vi=.int .i64 (i:Int)/\Hid (L3 m wO b (.slice t sl sc) R vv i wr))
     case atStart=>exact⟨0,by omega,by omega,rfl,m9⟩
     case round =>
      obtain⟨d,p0,b5,rfl,U⟩:=hrel
      by_cases p3:d<O
      ·have i9:(d:Int)<(O:Int):=by omega
       have c0:d<m.procs.length:=by have:=h3.out;omega
       obtain⟨nv,r,x2,x3⟩:=U.out
       obtain⟨na,nc,o2⟩:=z7 x3
       subst o2
       have a4:Below f.heap.size f wr:=g5.out.trans (zT r b2.out g5.out.size)
       obtain⟨o6,r1,r2⟩:=(h0.out wr a4).pr
       obtain⟨g,cap,e1,n8,b4,b9⟩:=yI r2 (by omega)
       have d5:B=some ⟨g,0,none⟩:=by cases e1;rfl
       obtain⟨pv,r7,r6,o8,t1,t2,t3,t4,t5⟩:=js m.procs o6 r1 d c0
       obtain⟨y3,n3,z3⟩:=t2.shape
       obtain⟨y4,n4,z4⟩:=t3.shape
       obtain⟨y5,n5,z5⟩:=t5.shape
       subst z3
       subst z4
       subst z5
       have E:=fun j (V:j<6)=>(b9 (d*6+j) (by omega)).trans (t1 j V)
       have a8:wr.cell? ⟨g,d*6,none⟩=some (.string (bs m.procs[d].name)):=E 0 (by omega)
       have a9:wr.cell? ⟨g,d*6+1,none⟩=some (.int .i64 (m.procs[d].pos:Int)):=E 1 (by omega)
       have b0:wr.cell? ⟨g,d*6+2,none⟩=some (.bool m.procs[d].seen):=E 2 (by omega)
       have b1:wr.cell? ⟨g,d*6+3,none⟩=some (.slice y3 m.procs[d].params.length n3):=E 3 (by omega)
       have f4:wr.cell? ⟨g,d*6+4,none⟩=some (.slice y4 m.procs[d].vars.length n4):=E 4 (by omega)
       have f5:wr.cell? ⟨g,d*6+5,none⟩=some (.slice y5 m.procs[d].body.length n5):=E 5 (by omega)
       subst d5
       have b7:=zh r
       have b8:=zh x2
       have Z:=zh x3
       have m7:=zh a4
       have P:b<wr.heap.size:=zc x2
       obtain⟨i1,hi,f1,f2,f3⟩:=info_parts Tryz.infoString
       obtain⟨px,d2⟩:∃px,px=m.procs[d]:=⟨_,rfl⟩
       rw[<-d2]at a8 a9 b0 b1 f4 f5
       have p8:=zh d2
       obtain⟨s,a7⟩:∃s,s=bs px.name:=⟨_,rfl⟩
       rw[<-a7]at a8
       have HV:Hid ([Value.string s]=[.string (bs m.procs[d].name)]):=by rw[a7,d2];rfl
       generalize (px.pos:Int)=x1' at a9
       generalize px.seen=x2' at b0
       generalize px.params.length=x3' at b1
       generalize px.vars.length=x4' at f4
       generalize px.body.length=x5' at f5
       obtain⟨q,a1⟩:∃q,q=wr.alloc (.cells #[.string s,.int .i64 x1',.bool x2',.slice y3 x3' n3,.slice y4 x4' n4,.slice y5 x5' n5] 157):=⟨_,rfl⟩
       have a0:Below wr.heap.size wr q:=by rw[a1];exact zb _ _
       have d6:q.heap[wr.heap.size]?=some (.cells #[.string s,.int .i64 x1',.bool x2',.slice y3 x3' n3,.slice y4 x4' n4,.slice y5 x5' n5] 157 (0,0)):=by rw[a1];exact zl _ _
       have o0:wr.heap.size<q.heap.size:=zc d6
       have y0:q.cell? ⟨wr.heap.size,0,none⟩=some (.string s):=(za d6).trans rfl
       have r9:∀o,(q.alloc o).cell? ⟨wr.heap.size,0,none⟩=some (.string s):=fun o=>zX y0 o
       have k3:q.cell? ⟨b,5,none⟩=some (.slice na d nc):=(a0.cell (p:=⟨b,5,none⟩) P).trans ((za x2).trans rfl)
       have o4:∀o,(q.alloc o).cell? ⟨b,5,none⟩=some (.slice na d nc):=fun o=>((a0.alloc a0.size o).cell (p:=⟨b,5,none⟩) P).trans ((za x2).trans rfl)
       have p4:b<q.heap.size:=Nat.lt_of_lt_of_le P a0.size
       have C:=zh a0
       have n9:(d:Int)<=10:=by omega
       have d8:Hid (wO.heap.size<=wr.heap.size):=r.size
       have d4:Hid (∀wx l v5,Below wr.heap.size wr wx->l.ownsRow wO.heap.size 9 1 v5 (d+1) (strs ((m.procs.take d).map (·.name))++[.string s])->wx.grownBy l (Value.slice na d nc).ownBlock->l.cell? ⟨b,5,none⟩=some (.slice na d nc)/\l.frozen? ⟨b,5,none⟩=false/\L3 m wO b (.slice t sl sc) R vv (d+1) (l.setCell ⟨b,5,none⟩ v5)):=fun wx l v5 hx y L=>by
        have d7:∀k,(Value.slice na d nc).ownBlock=some k->wO.heap.size<=k:=fun k hk=>(Z.out.lt k hk).1
        have m4:=f8.out
        have e5:l.heap[b]?=some (.cells (oc5 (bs m.name) (.slice t sl sc) R vv (.slice na d nc)) 49 (0,0)):=(L.block b (Nat.lt_of_lt_of_le P hx.size) (fun e=>by have:=d7 b e.symm;omega)).trans ((hx.block b P).trans b8.out)
        rw[HV.out]at y
        exact⟨(za e5).trans rfl,zi e5,l3_next c0 f8.out b7.out b8.out Z.out hx y L⟩
       have e2:Hid (∀W,Below wr.heap.size wr W->W.ownsRow wO.heap.size 9 1 (.slice na d nc) d (strs ((m.procs.take d).map (·.name)))):=fun W Q=>yP Z.out Q
       clear r x2 x3 a4 b9 e1 E t1 t2 t3 t4 t5 r1 r2 d2 a7 a0 d6 HV
       go_upto_region 16 with fail
       rw[<-a1]
       clear a1 a8 a9 b0 b1 f4 f5
       go_region_law (first|(refine zE rfl (.tmp 73) (.tmp 76) 46 rfl wO.heap.size 9 i1 (.string ⟨#[]⟩) 1 16 Tryz.underlying46 hi f1 f2 f3 rfl (by decide) (.slice na d nc) d (strs ((m.procs.take d).map (·.name))) (by simp[Act.eval]) ?own ⟨q.heap.size,0,none⟩ 1 1 [.string s] (by simp[Act.eval]) rfl ?news (by intro u hu;simp at hu;subst hu;rfl) (by unfold maxLen;omega) (by omega) ?base ?_;(case own=>exact e2.out _ (by first|exact C.out.alloc C.out.size _|exact C.out.drew.alloc C.out.size _|exact(C.out.alloc C.out.size _).drew));(case news=>(intro j u V;rw[Addr.add_lit];cases j with|zero=>(simp at V;subst V;first|exact(za (zl q _)).trans rfl|exact(za (zl q.drew _)).trans rfl)|succ j=>simp at V));(case base=>have:=d8.out;have:=C.out.size;simp;omega);intro v5 l y L q3;obtain⟨a5,c5,e8⟩:=z7 y;subst e8;have Y:=d4.out _ l _ (by first|exact C.out.alloc C.out.size _|exact C.out.drew.alloc C.out.size _|exact(C.out.alloc C.out.size _).drew) y L;have k5:l.cell? ⟨b,5,none⟩=some (.slice na d nc):=Y.1;have z5:l.frozen? ⟨b,5,none⟩=false:=Y.2.1;have l5:b<l.heap.size:=zg k5;have HF:Hid (L3 m wO b (.slice t sl sc) R vv (d+1) (l.setCell ⟨b,5,none⟩ (.slice a5 (d+1) c5))):=Y.2.2;clear Y y L q3))
       all_goals
        go_wp2_with fail
        go_roundg (O-(d+1))
        case measure=>omega
        case rel=>exact⟨d+1,by omega,rfl,by go_num,HF⟩
      ·have i9:¬(d:Int)<(O:Int):=by omega
       have g0:d=m.procs.length:=by have:=h3.out;omega
       obtain⟨nv,r,x2,x3⟩:=U.out
       rw[g0]at x3
       have h7:SL x w.heap.size (.slice t sl sc) (srt (Tp.symsOf m)):=n1.out.less (Nat.le_of_lt a6)
       have m1:Hid (OutP w wr b m S (.slice t sl sc) R vv nv):=outP_of (m6.out.trans (a3.out.mono (Nat.le_of_lt a6))) f6.out m0.out.symm h7 d9.out b7.out Z.out n2.out n6.out n7.out r x2 x3
       clear r x2 x3 h7 U g0
       go_wp2_with fail
       go_ret
       exact⟨b,_,_,_,_,rfl,m1.out⟩
end Go.Proofs.YtbkndnmglhghlaaGreatDoor

namespace Go.Proofs.YtbkndnmglhghlaaGreatDoor
open Go.RowKit Go.Maps
open Tp (Bs Sy G Pr Seen Cn cnOf codeC entP headC smOf compileC objC)
open Ob (In En)
variable {e n sc:Nat}{D:Nat->Prop}{S:Seen}{m:Tp.M}{v:Value}{w w':World}
theorem strs_of (l:List Bs):Jo.cellsOf Jo.stC l=strs l:=by
 induction l with
 |nil=>rfl
 |cons x l ih =>
  have e:Jo.cellsOf Jo.stC (x :: l)=Jo.stC x++Jo.cellsOf Jo.stC l:=rfl
  rw[e,ih]
  rfl
theorem slJ {k:Nat}{a:List Value}(h:Row w D e k v n a):Jo.Sl w v k n a:=Jo.Row.sl (D:=D) (e:=e) h
theorem sycs_of (l:List Sy):Jo.cellsOf Jo.smC (l.map smOf)=sycs l:=by
 unfold Jo.cellsOf sycs
 rw[List.map_map]
 rfl
theorem g0s_of (l:List G):Jo.cellsOf Jo.glC (l.map fun g=>(⟨g.name,0,(g.len:Int),g.seen⟩:Ob.Gl))=g0s l:=by
 unfold Jo.cellsOf g0s
 rw[List.map_map]
 rfl
theorem ud {f:Bs->List Bs}{nd:Bs->Bs}:∀(l:List Bs) (b:List Value),b.length=l.length*3->UsN w D f nd l b->Jo.RepN w (l.map fun n=>(⟨n,nd n,f n⟩:Ob.Us)) b:=by
 intro l
 induction l with
 |nil =>
  intro b d _
  exact List.eq_nil_of_length_eq_zero (by simpa using d)
 |cons x l ih =>
  intro b d h
  obtain⟨a,c,g,k,m,o⟩:=h 0 (by simp)
  rcases b with _|⟨y,_|⟨c1,_|⟨c2,b⟩⟩⟩
  ·simp at d
  ·simp at d
   omega
  ·simp at d
   omega
  simp only[Nat.zero_mul,Nat.zero_add,List.getElem_cons_zero,List.getElem?_cons_zero,List.getElem?_cons_succ,Option.some.injEq]at g k m o
  subst g
  subst k
  subst m
  refine⟨_,b,rfl,?_,ih b (by simp at d;omega) fun i r=>?_⟩
  ·show Jo.Sl w _ 1 (f x).length (Jo.cellsOf Jo.stC (f x))
   rw[strs_of]
   exact slJ o
  ·obtain⟨p,q,s,t,u,v⟩:=h (i+1) (by simpa using r)
   have e:∀j,(Value.string (bs x) :: Value.string (bs (nd x)) :: Value.slice a (f x).length c :: b)[(i+1)*3+j]?=b[i*3+j]?:=fun j=>by
    rw[show (i+1)*3+j=i*3+j+1+1+1 by omega,List.getElem?_cons_succ,List.getElem?_cons_succ,List.getElem?_cons_succ]
   exact⟨p,q,(e 0).symm.trans s,(e 1).symm.trans t,(e 2).symm.trans u,v⟩
def q0 (nm:ByteArray) (sa ua va na:Option Addr) (sl sc uc vc nc:Nat):Oq:=⟨nm,sa,sl,sc,ua,uc,va,vc,none,0,0,na,nc,none,0⟩
theorem Row.shape5 {size:Nat}{b:List Value}(h:Row w D e size v n b):∃a c,v=.slice a n c:=by
 rcases h with⟨rfl,rfl,_⟩|⟨g,cap,cur,rfl,_⟩
 ·exact⟨none,0,rfl⟩
 ·exact⟨_,_,rfl⟩
theorem var_of {l:List G}:VaR (l.map (·.name)) (g0s l):=by
 induction l with
 |nil=>intro i a;simp at a
 |cons x l ih =>
  intro i a
  cases i with
  |zero=>exact⟨0,x.len,x.seen,rfl,rfl,rfl,rfl⟩
  |succ i =>
   obtain⟨p,g,s,b,c,d,f⟩:=ih i (by simpa using a)
   have e:∀j,(g0s (x :: l))[(i+1)*4+j]?=(g0s l)[i*4+j]?:=fun j=>by
    rw[show g0s (x :: l)=g0V x++g0s l from rfl,List.getElem?_append_right (by simp[g0V];omega)]
    congr 1
    simp[g0V]
    omega
   exact⟨p,g,s,(e 0).trans b,(e 1).trans c,(e 2).trans d,(e 3).trans f⟩
theorem cs_start {a:World}{c:Nat}{k l o i:Option Addr}{sl p j:Nat}(h:OutP w a c m S (.slice k sl sc) (.slice l m.imports.length n) (.slice o m.vars.length p) (.slice i m.procs.length j))(s:MkC w)(r:2<w.heap.size) :
  CS (a.alloc (.cells #[.pointer (some ⟨c,0,none⟩),.slice none 0 0] 104)) a.heap.size c (fun b=>b≠c/\b<a.heap.size+1) (q0 (bs m.name) k l o i sl sc n p j) (cnOf m (uS m) []) (.slice none 0 0) []/\PE (a.alloc (.cells #[.pointer (some ⟨c,0,none⟩),.slice none 0 0] 104)) a.heap.size c (fun b=>b≠c/\b<a.heap.size+1) (q0 (bs m.name) k l o i sl sc n p j) (.slice none 0 0) []:=by
 have t:c<a.heap.size:=zc h.blk
 have u:w.heap.size<=a.heap.size:=h.bl.size
 have d:∀b,b≠c->b<a.heap.size->(a.alloc (.cells #[.pointer (some ⟨c,0,none⟩),.slice none 0 0] 104)).heap[b]?=a.heap[b]?/\(b≠c/\b<a.heap.size+1):=fun b f B=>⟨Below.heap_alloc _ _ b B,f,by omega⟩
 obtain⟨v,u1,u2⟩:=h.us
 have x:(cnOf m (uS m) []).uses.length=m.imports.length:=by simp[cnOf]
 have y:(cnOf m (uS m) []).vars.length=m.vars.length:=by simp[cnOf]
 have z:(cnOf m (uS m) []).procs.length=m.procs.length:=by simp[cnOf]
 have q:=(Below.heap_alloc a (.cells #[.pointer (some ⟨c,0,none⟩),.slice none 0 0] 104) c t).trans h.blk
 refine⟨⟨zl _ _,?_,Or.inl ⟨rfl,rfl,rfl⟩,⟨v,?_,?_⟩,⟨g0s m.vars,?_,?_⟩,?_,World.ownsRow_nil _ _ _ _,?_,⟨?_,?_⟩,⟨?_,?_⟩,?_,fun e=>by cases e⟩,⟨World.ownsRow_nil _ _ _ _,rfl,fun g A=>by cases A⟩⟩
 ·rw[q]
  simp[oqc,q0,oc5,cnOf]
 ·rw[x]
  exact u1.mono d
 ·exact(u2.mono d).usr
 ·rw[y]
  exact h.vr.mono d
 ·exact var_of
 ·rw[z]
  exact h.nm.mono d
 ·exact s.below (h.bl.trans ((((Below.refl a.heap.size a)).alloc zn _).mono u)) r
 ·have:=h.lo;omega
 ·omega
 ·omega
 ·omega
 ·intro b f
  exact⟨f.1,(fun e=>by cases e),by simp;omega⟩
def Six (w w':World):Prop:=∃(x y:Nat) (cx cy:Array Value),w.heap[x]?=some (.cells cx 22 (0,0))/\w.heap[y]?=some (.cells cy 33 (0,0))/\∀b,b≠x->b≠y->w'.heap[b]?=w.heap[b]?
theorem Six.blk (h:Six w w'){b e:Nat}{c:Array Value}(a:w.heap[b]?=some (.cells c e (0,0)))(d:e≠22)(f:e≠33):w'.heap[b]?=w.heap[b]?:=by
 obtain⟨x,y,k,l,i,j,g⟩:=h
 refine g b (fun q=>?_) (fun q=>?_)
 ·rw[q,i]at a
  injection a with a
  injection a with _ a
  exact d a.symm
 ·rw[q,j]at a
  injection a with a
  injection a with _ a
  exact f a.symm
theorem Row.six (i:Six w w'){D:Nat->Prop}{e size n:Nat}{v:Value}{a:List Value}(h:Row w D e size v n a)(d:e≠22)(f:e≠33):Row w' D e size v n a:=by
 rcases h with h|⟨g,cap,c,j,k,b,l⟩
 ·exact Or.inl h
 ·exact Or.inr ⟨g,cap,c,j,k,(i.blk b d f).trans b,l⟩
theorem UsN.six {w w':World}(m:Six w w'){D:Nat->Prop}{d:Bs->List Bs}{nd:Bs->Bs}{l:List Bs}{b:List Value}(h:UsN w D d nd l b):UsN w' D d nd l b:=fun i k=>by
 obtain⟨a,c,e,f,g,j⟩:=h i k
 exact⟨a,c,e,f,g,j.six m (by decide) (by decide)⟩
theorem SL.row {B:Nat}{l:List Sy}(h:SL w B v l):Row w (fun _=>True) 53 3 v l.length (sycs l):=by
 rcases h with⟨rfl,rfl⟩|⟨g,cap,rfl,_,⟨cur,h1,h2⟩,h3,h4⟩
 ·exact Or.inl ⟨rfl,rfl,rfl⟩
 ·exact Or.inr ⟨g,cap,cur,rfl,trivial,h1,h3,h4,h2.1,h2.2⟩
theorem oa_of {f o A:World}{d:Nat}{u v y s:Option Addr}{x z t:Nat}(h:OutP w f d m S (.slice u (srt (Tp.symsOf m)).length sc) (.slice v m.imports.length x) (.slice y m.vars.length z) (.slice s m.procs.length t))
  (k:ModP (f.alloc (.cells #[.pointer (some ⟨d,0,none⟩),.slice none 0 0] 104)) f.heap.size d (fun b=>b≠d/\b<f.heap.size+1) (q0 (bs m.name) u v y s (srt (Tp.symsOf m)).length sc x z t) m (uS m) (.slice none 0 0) (codeC m (uS m)) (entP m (uS m) (headC m (uS m)).length m.procs) o)(c:Six o A) :
  Jo.OA A d 0 (compileC m (srt (Tp.symsOf m)) (uS m) S):=by
 obtain⟨own,D',W,v',l,q,B,_,r⟩:=k
 have X:d<f.heap.size:=zc h.blk
 have i:∀b,b≠d->b<f.heap.size->o.heap[b]?=f.heap[b]?/\True:=fun b U n=>⟨(B.block b (by simp;omega) U (by omega) (fun e=>by cases e) (fun e=>by cases e)).trans (Below.heap_alloc _ _ b n),trivial⟩
 have Q:(cnOf m (uS m) own).uses.length=m.imports.length:=by simp[cnOf]
 have R:(cnOf m (uS m) own).vars.length=m.vars.length:=by simp[cnOf]
 have T:(cnOf m (uS m) own).procs.length=m.procs.length:=by simp[cnOf]
 obtain⟨j,u1,u2⟩:=h.us
 obtain⟨O,P,C⟩:=z7 l.cd
 subst C
 obtain⟨n',H,a1,I,J,K,L,N,F,a0,G,D,E,Y,Z⟩:=W
 simp only[SameQ,q0,Oq.mk.injEq]at r
 obtain⟨rfl,rfl,rfl,rfl,rfl,rfl,rfl,rfl,-,-,-,rfl,rfl,-,-⟩:=r
 have p:=q.len
 simp only at p
 subst p
 have a:=l.obk
 rw[oqc,Q,R,T]at a
 have a:=(c.blk a (by decide) (by decide)).trans a
 refine⟨H,J,L,F,D,O,I,K,N,G,E,P,⟨?_,?_,?_,?_,?_,?_,?_,?_,⟨j,?_,?_⟩,?_,?_,?_,?_⟩⟩
 ·exact(za a).trans rfl
 ·simp only[compileC,objC,List.length_map]
  exact(za a).trans rfl
 ·simp only[compileC,objC,List.length_map]
  exact(za a).trans rfl
 ·simp only[compileC,objC,List.length_map]
  exact(za a).trans rfl
 ·exact(za a).trans rfl
 ·simp only[compileC,objC,List.length_map]
  exact(za a).trans rfl
 ·exact(za a).trans rfl
 ·simp only[compileC,objC,List.length_map,sycs_of]
  exact slJ ((h.sy.1.other fun g _ V e=>(i g (h.sy.2 g e) V).1).row.six c (by decide) (by decide))
 ·have n:j.length=m.imports.length*3:=(slJ u1).choose_spec.choose_spec.2.1
  exact ud m.imports j n ((u2.mono i).six c)
 ·simp only[compileC,objC,List.length_map]
  exact slJ ((u1.mono i).six c (by decide) (by decide))
 ·simp only[compileC,objC,List.length_map,g0s_of]
  exact slJ ((h.vr.mono i).six c (by decide) (by decide))
 ·exact slJ ((Row.of_owns q.row).six c (by decide) (by decide))
 ·simp only[compileC,objC,List.length_map,strs_of]
  exact slJ ((h.nm.mono i).six c (by decide) (by decide))
 ·exact slJ ((Row.of_owns l.cd).six c (by decide) (by decide))
theorem late5_idle (m e:Addr)(w:World) :
  CallsD Tryz.prog 41 #[.pointer (some m),.pointer (some e)] .returning w fun e f w'=>e=.returned (.tuple #[])/\f=.returning/\w'=w:=by
 refine callsD_of_wpS Tryz.func41 rfl fun b g d=>?_
 apply wpS_seq
 apply wpS_region
 simp[wpOpsS,go_sem,recoverD,d,Tryz.ntmps41,Exit.thenS]
 refine wpS_of_wp ?_
 generalize c:(fun (e:Exit) (a:Act) (w':World)=>bodyPostS Tryz.prog _ _ _ _ e a _ w')=Q
 show Code.wp Tryz.prog _ _ { tmps:=#[.pointer (some m),.pointer (some e),.nilIface,.nilIface,undef,undef,undef,undef],defers:=[] } w
 go_wp2_with fail
 subst c
 cases b
 simp_all [bodyPostS,results,Tryz.results41]
def EvE (ev:Value):Prop:=(∃n,ev=.iface 36 (.int .i64 n))\/∃ab,ev=.iface 141 (.pointer (some ⟨ab,0,none⟩))
def CompP (w:World) (m:Tp.M) (S:Seen) (e:Ending) (w':World):Prop:=Below w.heap.size w w'/\match Tp.check m S with
 |none=>∃ob,e=.returned (.tuple #[.pointer (some ⟨ob,0,none⟩),.nilIface])/\Jo.OA w' ob 0 (compileC m (srt (Tp.symsOf m)) (uS m) S)
 |some _=>∃ev,e=.returned (.tuple #[.pointer none,ev])/\EvE ev
theorem check5 {a:Tp.Ck}{e:Ending}(h:CheckP w a e w'):Below w.heap.size w w'/\∃ev,e=.returned ev/\(a=none->ev=.nilIface)/\(a≠none->EvE ev):=by
 obtain⟨c,b⟩:=h
 refine⟨c,?_⟩
 rcases a with _|⟨en,_|f⟩
 ·exact⟨_,b,fun _=>rfl,fun h=>absurd rfl h⟩
 ·exact⟨_,b,(fun h=>by cases h),fun _=>Or.inl ⟨_,rfl⟩⟩
 ·obtain⟨d,q,_⟩:=b
  exact⟨_,q,(fun h=>by cases h),fun _=>Or.inr ⟨_,rfl⟩⟩
theorem xP (hm:Tp.WM m)(hn:Tp.nM m<=1000){x r z p:Option Addr}{y t A q:Nat}(I:MB w w.heap.size m x r z p y t A q){sv:Value}{S:Seen}(hs:SeenV w sv S)(c9:MkC w)(b2:2<w.heap.size)
  (c8:m.imports.length=0) :
  Calls Tryz.prog 21 #[.agg #[.string (bs m.name),.slice x m.imports.length y,.slice r m.vars.length t,.slice z m.procs.length A,.slice p m.body.length q],sv] w (CompP w m S):=by
 have d7:=zm
 obtain⟨a,G⟩:∃a,a=w.heap.size:=⟨_,rfl⟩
 obtain⟨c,E⟩:∃c,c=((w.alloc (.cells #[.string (bs m.name),.slice x m.imports.length y,.slice r m.vars.length t,.slice z m.procs.length A,.slice p m.body.length q] 66)).alloc (.cells #[.pointer none] 22)).alloc (.cells #[.nilIface] 33):=⟨_,rfl⟩
 have C:Below w.heap.size w c:=by rw[E];exact((zb _ _).alloc (by simp) _).alloc (by simp;omega) _
 have d0:c.heap.size=a+3:=by rw[E,G];simp
 have a8:c.heap[a]?=some (.cells #[.string (bs m.name),.slice x m.imports.length y,.slice r m.vars.length t,.slice z m.procs.length A,.slice p m.body.length q] 66 (0,0)):=by
  rw[E,G,Below.heap_alloc _ _ _ (by simp;omega),Below.heap_alloc _ _ _ (by simp)];exact zl _ _
 have a9:c.heap[a+1]?=some (.cells #[.pointer none] 22 (0,0)):=by
  rw[E,G,Below.heap_alloc _ _ _ (by simp)]
  have:=zl (w.alloc (.cells #[.string (bs m.name),.slice x m.imports.length y,.slice r m.vars.length t,.slice z m.procs.length A,.slice p m.body.length q] 66)) (.cells #[.pointer none] 22)
  simpa using this
 have b0:c.heap[a+2]?=some (.cells #[.nilIface] 33 (0,0)):=by
  rw[E,G]
  have:=zl ((w.alloc (.cells #[.string (bs m.name),.slice x m.imports.length y,.slice r m.vars.length t,.slice z m.procs.length A,.slice p m.body.length q] 66)).alloc (.cells #[.pointer none] 22)) (.cells #[.nilIface] 33)
  simpa using this
 have b7:MB c c.heap.size m x r z p y t A q:=I.up C
 have c7:=check_post hm.sml b7 (hs.on C)
 have O:Hid (Calls Tryz.prog 40 #[.agg #[.string (bs m.name),.slice x m.imports.length y,.slice r m.vars.length t,.slice z m.procs.length A,.slice p m.body.length q],sv] c fun e w'=>Below c.heap.size c w'/\∃ev,e=.returned ev/\(Tp.check m S=none->ev=.nilIface)/\(Tp.check m S≠none->EvE ev)):=c7.mono fun e w' h=>check5 h
 obtain⟨k0,k1,k2,k3,k4⟩:=zW a8
 have ko:c.cell? ⟨a+1,0,none⟩=some (.pointer none):=za a9
 have ke:c.cell? ⟨a+2,0,none⟩=some .nilIface:=za b0
 have b1:a<c.heap.size:=by omega
 have R:Hid (∀W,Below c.heap.size c W->Tp.check m S=none->Calls Tryz.prog 43 #[.agg #[.string (bs m.name),.slice x m.imports.length y,.slice r m.vars.length t,.slice z m.procs.length A,.slice p m.body.length q],sv] W (OutR W m S)):=fun W hW l=>x7 hm c8 (I.up (C.trans (hW.mono C.size))) sv S
 have Q:Hid (∀W d i sa ua va na sc uc vc nc,Below c.heap.size c W->OutP W d i m S (.slice sa (srt (Tp.symsOf m)).length sc) (.slice ua m.imports.length uc) (.slice va m.vars.length vc) (.slice na m.procs.length nc)->Calls Tryz.prog 44 #[.pointer (some ⟨d.heap.size,0,none⟩),.agg #[.string (bs m.name),.slice x m.imports.length y,.slice r m.vars.length t,.slice z m.procs.length A,.slice p m.body.length q]] (d.alloc (.cells #[.pointer (some ⟨i,0,none⟩),.slice none 0 0] 104)) fun e w'=>e=.returned (.tuple #[])/\(∀o,Six w' o->Jo.OA o i 0 (compileC m (srt (Tp.symsOf m)) (uS m) S))/\Below W.heap.size W w'/\w'.cell? ⟨d.heap.size,0,none⟩=some (.pointer (some ⟨i,0,none⟩))/\d.heap.size<w'.heap.size):=by
  intro W d i sa ua va na sc uc vc nc hW g
  have a1:Below w.heap.size w W:=C.trans (hW.mono C.size)
  obtain⟨c1,p1⟩:=cs_start g (c9.below a1 b2) (Nat.lt_of_lt_of_le b2 a1.size)
  have d8:i<d.heap.size:=zc g.blk
  have d1:W.heap.size<=d.heap.size:=g.bl.size
  have c4:Below W.heap.size W (d.alloc (.cells #[.pointer (some ⟨i,0,none⟩),.slice none 0 0] 104)):=g.bl.alloc d1 _
  refine(vz c1 p1 (by have:=a1.size;omega) hm hn (fun n=>Nat.zero_le _) (B:=W.heap.size) (fun b I=>⟨⟨by have:=g.lo;omega,by omega⟩,by omega⟩) ((I.up a1).on c4)).mono ?_
  rintro e w'⟨rfl,hM⟩
  have Y:=fun o (h6:Six w' o)=>oa_of g hM h6
  have d2:=hM.below (B:=W.heap.size) c1 p1 (fun b I=>⟨⟨by have:=g.lo;omega,by omega⟩,by omega⟩)
  obtain⟨own,D',q',v',l,_⟩:=hM
  exact⟨rfl,Y,c4.trans d2,(za l.wbk).trans rfl,zc l.wbk⟩
 have N:=zh C
 have a5:=zh a8
 have c0:=zh a9
 have c2:=zh b0
 have P:=zh G
 have T:=zh d0
 clear hm hn I hs c9 b2 c8 C a8 a9 b0 b7 c7
 obtain⟨il,X⟩:∃il,il=m.imports.length:=⟨_,rfl⟩
 obtain⟨gl,V⟩:∃gl,gl=m.vars.length:=⟨_,rfl⟩
 obtain⟨pl,Z⟩:∃pl,pl=m.procs.length:=⟨_,rfl⟩
 obtain⟨bl,a7⟩:∃bl,bl=m.body.length:=⟨_,rfl⟩
 obtain⟨nm,b5⟩:∃nm,nm=bs m.name:=⟨_,rfl⟩
 rw[<-X,<-V,<-Z,<-a7,<-b5]at O a5 E R Q ⊢
 rw[<-X]at k1
 rw[<-V]at k2
 rw[<-Z]at k3
 rw[<-a7]at k4
 rw[<-b5]at k0
 have a4:=zh (And.intro X (And.intro V Z))
 clear X V Z a7 b5
 go_enter_defers Tryz.func21,Tryz.ntmps21
 go_upto_region 1 with fail
 rw[<-E,<-G]
 clear E G d0
 go_wp2_with fail
 refine O.out.mono ?_
 rintro e d⟨D,ev,rfl,b3,b4⟩
 have K:=zh D
 have j:d.heap[a+1]?=some (.cells #[.pointer none] 22 (0,0)):=(D.block _ (by have:=T.out;omega)).trans c0.out
 have k:d.heap[a+2]?=some (.cells #[.nilIface] 33 (0,0)):=(D.block _ (by have:=T.out;omega)).trans c2.out
 have e0:=(D.block _ b1).trans a5.out
 obtain⟨k0,k1,k2,k3,k4⟩:=zW e0
 have ko:d.cell? ⟨a+1,0,none⟩=some (.pointer none):=za j
 have ke:d.cell? ⟨a+2,0,none⟩=some .nilIface:=za k
 have zo:d.frozen? ⟨a+1,0,none⟩=false:=zi j
 have ze:d.frozen? ⟨a+2,0,none⟩=false:=zi k
 have d4:a<d.heap.size:=zc e0
 by_cases l:Tp.check m S=none
 ·have U:=b3 l
  subst U
  have c3:=zh (R.out d D l)
  have HC:=zh l
  clear b3 b4 l D e0 j k O R
  go_wp2_with fail
  refine c3.out.mono ?_
  intro e w3 g
  obtain⟨i,s,u,v,n,rfl,g⟩:=g
  obtain⟨sa,sc,rfl⟩:=g.sy.1.len
  obtain⟨d9,hu,_⟩:=g.us
  obtain⟨ua,uc,rfl⟩:=hu.shape5
  obtain⟨va,vc,rfl⟩:=g.vr.shape5
  obtain⟨na,nc,rfl⟩:=g.nm.shape5
  have b6:=g.bl
  rw[<-a4.out.1,<-a4.out.2.1,<-a4.out.2.2]at g
  have a6:=zh (Q.out d w3 i sa ua va na sc uc vc nc K.out g)
  have b8:Hid (Below c.heap.size c w3):=K.out.trans (b6.mono K.out.size)
  have HO:=zh g
  obtain⟨w4,a0⟩:∃w4,w4=w3.alloc (.cells #[.pointer (some ⟨i,0,none⟩),.slice none 0 0] 104):=⟨_,rfl⟩
  have b9:Hid (Below c.heap.size c w4):=by rw[a0];exact b8.out.alloc b8.out.size _
  obtain⟨j0,j1,j2,j3,j4⟩:=zW ((b9.out.block _ b1).trans a5.out)
  have d5:a<w4.heap.size:=Nat.lt_of_lt_of_le b1 b9.out.size
  rw[<-a0]at a6
  clear g hu b6 Q k0 k1 k2 k3 k4 ko ke zo ze c3
  go_upto_region 6 with fail
  rw[<-a0]
  clear a0
  go_wp2_with fail
  refine a6.out.mono ?_
  rintro e F⟨rfl,Y,c6,d3,d6⟩
  have a3:Hid (Below c.heap.size c F):=K.out.trans (c6.mono K.out.size)
  have j:F.heap[a+1]?=some (.cells #[.pointer none] 22 (0,0)):=(a3.out.block _ (by have:=T.out;omega)).trans c0.out
  have k:F.heap[a+2]?=some (.cells #[.nilIface] 33 (0,0)):=(a3.out.block _ (by have:=T.out;omega)).trans c2.out
  have ko:F.cell? ⟨a+1,0,none⟩=some (.pointer none):=za j
  have ke:F.cell? ⟨a+2,0,none⟩=some .nilIface:=za k
  have zo:F.frozen? ⟨a+1,0,none⟩=false:=zi j
  have ze:F.frozen? ⟨a+2,0,none⟩=false:=zi k
  obtain⟨o,H⟩:∃o,o=(F.setCell ⟨a+1,0,none⟩ (.pointer (some ⟨i,0,none⟩))).setCell ⟨a+2,0,none⟩ .nilIface:=⟨_,rfl⟩
  have r1:o.cell? ⟨a+1,0,none⟩=some (.pointer (some ⟨i,0,none⟩)):=by
   rw[H]
   exact za ((Below.heap_setCell _ _ _ _ (by simp)).trans (zy 0 (.pointer (some ⟨i,0,none⟩)) j))
  have r2:o.cell? ⟨a+2,0,none⟩=some .nilIface:=by
   rw[H]
   exact za (zy 0 .nilIface ((Below.heap_setCell _ _ _ _ (by simp)).trans k))
  have a2:CompP w m S (.returned (.tuple #[.pointer (some ⟨i,0,none⟩),.nilIface])) o:=by
   refine⟨?_,?_⟩
   ·rw[H]
    exact((N.out.trans (a3.out.mono N.out.size)).setCell (by have:=P.out;show w.heap.size<=a+1;omega) _).setCell (by have:=P.out;show w.heap.size<=a+2;omega) _
   ·rw[HC.out]
    refine⟨i,rfl,Y _ ⟨a+1,a+2,_,_,j,k,fun b h1 h2=>?_⟩⟩
    rw[H]
    exact(Below.heap_setCell _ _ _ _ (by simpa using h2)).trans (Below.heap_setCell _ _ _ _ (by simpa using h1))
  clear Y c6 a6 j k
  go_wp2_with fail
  rw[<-H]
  clear H
  refine leaves_cons (f:=41) (args:=#[.pointer (some ⟨a+1,0,none⟩),.pointer (some ⟨a+2,0,none⟩)]) (by simp) (by simp[go_sem]) ?_
  refine(late5_idle ⟨a+1,0,none⟩ ⟨a+2,0,none⟩ o).mono ?_
  rintro e u' e3⟨rfl,rfl,rfl⟩
  simp[Leaves,settle,results,Tryz.results21,go_sem,r1,r2]
  exact a2
 ·have U:=b4 l
  obtain⟨J,L⟩:∃J,J=(d.setCell ⟨a+1,0,none⟩ (.pointer none)).setCell ⟨a+2,0,none⟩ ev:=⟨_,rfl⟩
  have r1:J.cell? ⟨a+1,0,none⟩=some (.pointer none):=by
   rw[L]
   exact za ((Below.heap_setCell _ _ _ _ (by simp)).trans (zy 0 (.pointer none) j))
  have r2:J.cell? ⟨a+2,0,none⟩=some ev:=by
   rw[L]
   exact za (zy 0 ev ((Below.heap_setCell _ _ _ _ (by simp)).trans k))
  have c5:Below w.heap.size w J:=by
   rw[L]
   exact((N.out.trans (D.mono N.out.size)).setCell (by have:=P.out;show w.heap.size<=a+1;omega) _).setCell (by have:=P.out;show w.heap.size<=a+2;omega) _
  have a2:CompP w m S (.returned (.tuple #[.pointer none,ev])) J:=by
   refine⟨c5,?_⟩
   cases hq:Tp.check m S with
   |none=>exact absurd hq l
   |some er=>exact⟨ev,rfl,U⟩
  clear b3 b4 l D e0 j k O R Q c5
  rcases U with⟨n,rfl⟩|⟨ab,rfl⟩
  all_goals
   go_wp2_with fail
   rw[<-L]
   clear L
   simp[bodyPostD,Leaves,results,Tryz.results21,go_sem,r1,r2]
   exact a2
end Go.Proofs.YtbkndnmglhghlaaGreatDoor
