import Derived.Test.YtibncofnnlbmcaaGreatDoorLQi
import Derived.Test.YtibncofnnlbmcaaGreatDoorLMf
set_option maxRecDepth 100000
set_option maxHeartbeats 4000000
namespace Go.Proofs.YtibncofnnlbmcaaGreatDoor
open Go.RowKit Go.Maps
open Tp (Bs X S G Pr Pt Rs Rr Own)
theorem all_post {X:Nat->Prop}{w:World}{wb:Nat}{L:List Lo}{P:List Pt}{nv:Value}{tb:Nat}(h:WW X w wb L P nv tb)(hL:L.length<=10) :
  Calls Tryz.prog 13 #[.pointer (some ⟨wb,0,none⟩)] w fun e w'=>e=.returned (.string (allB P))/\Below w.heap.size w w':=by
 obtain⟨ns,G⟩:∃ns,ns=L.map fun lo=>lo.m.name:=⟨_,rfl⟩
 have c4:P.map (fun p=>p.m.name)=ns:=by
  have:=congrArg (List.map fun m:Tp.M=>m.name) h.mw
  rw[G]
  simpa[Tp.ms,Function.comp_def] using this
 have HN:=zh (vF (ns:=ns) h.blk (by rw[G];simpa using h.nm) (by rw[G];simp;omega))
 have HW:=zh h
 obtain⟨rs,b1⟩:∃rs,rs=allB P:=⟨_,rfl⟩
 have f9:Hid (rs=ns.foldl (modS P) ⟨#[]⟩):=by show rs=_;rw[b1,<-c4];rfl
 have f8:Hid (∀i (K:i<ns.length),∃lo∈L,lo.m.name=ns[i]/\ns[i].length<=1000000):=fun i K=>by
  have hm:∀x∈ns,∃lo∈L,lo.m.name=x:=by
   rw[G]
   intro x hx
   obtain⟨lo,v,N⟩:=List.mem_map.1 hx
   exact⟨lo,v,N⟩
  obtain⟨lo,v,N⟩:=hm _ (List.getElem_mem K)
  obtain⟨_,_,_,_,e4⟩:=h.lo lo v
  exact⟨lo,v,N,by rw[<-N];exact zQ e4.wm.n⟩
 rw[<-b1]
 have e1:ns.length<=10:=by rw[G];simpa using hL
 clear h c4 b1 G hL
 go_enter Tryz.func13,Tryz.ntmps13
 go_wp2_with fail
 refine HN.out.mono ?_
 rintro e f⟨v',rfl,a5,b7⟩
 obtain⟨na,nc,rfl⟩:=zw b7
 have d6:=zh a5
 have f3:=zh (HW.out.more a5)
 have g6:Hid (∀i (K:i<ns.length),∃z,na=some ⟨z,0,none⟩/\z<f.heap.size/\f.cell? ⟨z,i,none⟩=some (.string (bs ns[i]))):=fun i K=>by
  rcases b7.2 with⟨_,N⟩|⟨g,cap,cur,v,_,h3,h4,h5,h6,h7⟩
  ·omega
  ·injection v with v _ _
   refine⟨g,v,zf h3,?_⟩
   rw[za h3,<-Array.getElem?_toList]
   have:(strs ns)[i]?=some (.string (bs ns[i])):=by simp[strs,K]
   rw[<-this,<-h7,List.getElem?_take_of_lt (by omega)]
 clear a5 b7 HN HW
 obtain⟨o,a9⟩:∃o,o=ns.length:=⟨_,rfl⟩
 have c8:=zh a9
 rw[<-a9]at e1 ⊢
 clear a9
 go_wp2_with fail
 go_loopg [3,5] o (fun k vs vi wr=>∃(i:Nat) (y:ByteArray),i<=o/\k=o-i/\vi=.int .i64 (i:Int)/\vs=.string y/\Hid (y=(ns.take i).foldl (modS P) ⟨#[]⟩/\y.size<=i*2000000)/\Hid (Below f.heap.size f wr))
 case atStart=>exact⟨0,_,by omega,by omega,rfl,rfl,⟨rfl,by decide⟩,Below.refl _ _⟩
 case round =>
  obtain⟨i,y,i4,hk,rfl,rfl,HS,HB⟩:=hrel
  by_cases h9:i<o
  ·have e3:(i:Int)<(o:Int):=by omega
   have i7:¬(i:Int)<0:=by omega
   have a4:i<ns.length:=by have:=c8.out;omega
   obtain⟨z,rfl,e7,d4⟩:=g6.out i a4
   have T:Hid (∀W,Below f.heap.size f W->W.cell? ⟨z,i,none⟩=some (.string (bs ns[i]))):=fun W hW=>(hW.cell (p:=⟨z,i,none⟩) e7).trans d4
   have kn:=T.out wr HB.out
   have f5:z<wr.heap.size:=zg kn
   obtain⟨lo,d9,c7,g2⟩:=f8.out i a4
   have J:Hid (lo∈L/\lo.m.name=ns[i]):=⟨d9,c7⟩
   have c0:¬9223372036854775807<y.size+(bs ns[i]).size:=by rw[yz];have:=HS.out.2;omega
   obtain⟨s1,H⟩:∃s1,s1=y++bs ns[i]:=⟨_,rfl⟩
   have g3:Hid (s1.size<=i*2000000+1000000):=by show _<=_;rw[H,ByteArray.size_append,yz];have:=HS.out.2;omega
   have d0:Hid (vars5.foldl (varS P ns[i]) s1++⟨#[59]⟩=(ns.take (i+1)).foldl (modS P) ⟨#[]⟩):=by
    show _=_
    rw[jD (modS P) _ ns i a4,<-HS.out.1,H]
    rfl
   obtain⟨w2,a0⟩:∃w2,w2=wr.alloc (.cells #[.string ⟨#[120]⟩,.string ⟨#[121]⟩,.string ⟨#[116]⟩,.string ⟨#[117]⟩,.string ⟨#[122]⟩] 9):=⟨_,rfl⟩
   have b2:w2.heap[wr.heap.size]?=some (.cells #[.string ⟨#[120]⟩,.string ⟨#[121]⟩,.string ⟨#[116]⟩,.string ⟨#[117]⟩,.string ⟨#[122]⟩] 9 (0,0)):=by rw[a0];exact zo _ _
   have d1:Hid (Below f.heap.size f w2):=by rw[a0];exact HB.out.alloc HB.out.size _
   obtain⟨Q,b5⟩:∃Q,Q=wr.heap.size:=⟨_,rfl⟩
   rw[<-b5]at b2
   have c3:=zh b2
   clear d4 d9 c7 g2 b2
   obtain⟨nm,c6⟩:∃nm,nm=ns[i]:=⟨_,rfl⟩
   rw[<-c6]at d0 J T kn H c0
   obtain⟨Z,a1⟩:∃Z,Z=bs nm:=⟨_,rfl⟩
   rw[<-a1]at T kn H c0
   have g7:=zh a1
   clear c6 a1
   go_upto_region 8 with fail
   rw[<-a0,<-b5,<-H]
   clear a0 b5 H kn f5
   go_loopg [3,29] 5 (fun k vs R O=>∃(j:Nat) (b:ByteArray),j<=5/\k=5-j/\R=.int .i64 (j:Int)/\vs=.string b/\Hid (b=(vars5.take j).foldl (varS P nm) s1/\b.size<=i*2000000+1000000+j*500)/\Hid (Below w2.heap.size w2 O))
   case atStart=>exact⟨0,_,by omega,by omega,rfl,rfl,⟨rfl,by have:=g3.out;omega⟩,Below.refl _ _⟩
   case round =>
    obtain⟨j,b,i8,i0,rfl,rfl,t,F⟩:=hrel
    have a2:Hid (Below f.heap.size f wr):=d1.out.trans (F.out.mono d1.out.size)
    by_cases hj:j<5
    ·have g0:(j:Int)<5:=by omega
     have h0:¬(j:Int)<0:=by omega
     have b4:j<vars5.length:=hj
     have kv:wr.cell? ⟨Q,j,none⟩=some (.string (bs vars5[j])):=by
      refine(za ((F.out.block Q (zf c3.out)).trans c3.out)).trans ?_
      match j,hj with
      | 0,_=>rfl
      | 1,_=>rfl
      | 2,_=>rfl
      | 3,_=>rfl
      | 4,_=>rfl
     have E:vars5[j].length=1:=by
      match j,hj with
      | 0,_=>rfl
      | 1,_=>rfl
      | 2,_=>rfl
      | 3,_=>rfl
      | 4,_=>rfl
     have g4:Q<wr.heap.size:=zg kv
     have d3:=T.out wr a2.out
     have e5:z<wr.heap.size:=zg d3
     have a6:=f3.out.more a2.out
     have C:=get_in a6 J.out.1 vars5[j] (by rw[E];omega)
     rw[J.out.2,<-g7.out]at C
     have S:∀a,Tp.getW P nm vars5[j]=some a->a.length<=30:=fun a hx=>a6.getlen J.out.1 (by rw[J.out.2];exact hx)
     have Y:Hid (varS P nm b vars5[j]=(vars5.take (j+1)).foldl (varS P nm) s1/\(varS P nm b vars5[j]).size<=i*2000000+1000000+(j+1)*500):=by
      refine⟨?_,?_⟩
      ·rw[jD (varS P nm) s1 vars5 j b4,<-t.out.1]
      ·have:=var_size E S b
       have:=t.out.2
       omega
     have e9:¬9223372036854775807<b.size+(bs vars5[j]).size:=by rw[yz,E];have:=t.out.2;omega
     have g8:¬9223372036854775807<b.size+1:=by have:=t.out.2;omega
     clear a6
     generalize vars5[j]=vq at *
     cases B:Tp.getW P nm vq with
     |none =>
      rw[B]at C
      have HG:Hid (Calls Tryz.prog 23 #[.pointer (some ⟨wb,0,none⟩),.string Z,.string (bs vq)] wr fun e w'=>Below wr.heap.size wr w'/\e=.returned (.tuple #[.slice none 0 0,.iface 44 (.int .i64 7)])):=C
      have a8:Hid (b++⟨#[45]⟩=(vars5.take (j+1)).foldl (varS P nm) s1/\(b++⟨#[45]⟩:ByteArray).size<=i*2000000+1000000+(j+1)*500):=by
       have e:varS P nm b vq=b++⟨#[45]⟩:=by unfold varS;rw[B]
       rw[<-e]
       exact Y.out
      clear C S Y B E
      generalize bs vq=vnm at *
      go_wp2_with fail
      refine HG.out.mono ?_
      rintro e s⟨I,rfl⟩
      have U:Hid (Below w2.heap.size w2 s):=F.out.trans (I.mono F.out.size)
      clear I
      go_wp2_with fail
      go_roundg (5-(j+1))
      case measure=>omega
      case rel=>exact⟨j+1,_,by omega,rfl,by go_num,rfl,a8,U⟩
     |some a =>
      rw[B]at C
      have e0:=S a B
      have HG:Hid (Calls Tryz.prog 23 #[.pointer (some ⟨wb,0,none⟩),.string Z,.string (bs vq)] wr fun e w'=>Below wr.heap.size wr w'/\∃oa oc,e=.returned (.tuple #[.slice oa a.length oc,.nilIface])/\IntsAt w' a oa):=C
      obtain⟨s2,V⟩:∃s2,s2=b++bs vq:=⟨_,rfl⟩
      have a8:Hid (a.foldl numS s2=(vars5.take (j+1)).foldl (varS P nm) s1/\(a.foldl numS s2).size<=i*2000000+1000000+(j+1)*500):=by
       have e:varS P nm b vq=a.foldl numS s2:=by unfold varS;rw[B,V]
       rw[<-e]
       exact Y.out
      have f0:Hid (s2.size<=i*2000000+1000000+j*500+1):=by
       show _<=_
       rw[V,ByteArray.size_append,yz,E]
       have:=t.out.2
       omega
      clear C S Y B E
      obtain⟨l,b6⟩:∃l,l=a.length:=⟨_,rfl⟩
      rw[<-b6]at HG e0
      have c5:=zh b6
      clear b6
      generalize bs vq=vnm at *
      go_wp2_with fail
      refine HG.out.mono ?_
      rintro e s⟨I,oa,oc,rfl,d5⟩
      have U:Hid (Below w2.heap.size w2 s):=F.out.trans (I.mono F.out.size)
      have f4:=zh d5
      clear I d5 kv d3 e5 g4
      go_wp2_with fail
      rw[<-V]
      clear V e9
      go_loopg [3,10] l (fun k vs R O=>∃(q:Nat) (d:ByteArray),q<=l/\k=l-q/\R=.int .i64 (q:Int)/\vs=.string d/\Hid (d=(a.take q).foldl numS s2)/\Hid (Below s.heap.size s O))
      case atStart=>exact⟨0,_,by omega,by omega,rfl,rfl,rfl,Below.refl _ _⟩
      case round =>
       obtain⟨q,d,i5,i6,rfl,rfl,a3,b9⟩:=hrel
       by_cases hq:q<l
       ·have f7:(q:Int)<(l:Int):=by omega
        have i1:¬(q:Int)<0:=by omega
        have d8:q<a.length:=by have:=c5.out;omega
        obtain⟨xb,xo,rfl,i3,kx⟩:=(f4.out.on b9.out).c q d8
        have d7:Hid (numS d a[q]=(a.take (q+1)).foldl numS s2):=by
         show _=_
         rw[jD numS s2 a q d8,<-a3.out]
        have g1:Hid (d.size<=100000000):=by
         show _<=_
         rw[a3.out,vA,List.length_take]
         have:=f0.out
         omega
        generalize a[q]=x at *
        go_upto_region 19 with fail
        obtain⟨u0,b8⟩:∃u0,u0=IntKind.u64.wrap x:=⟨_,rfl⟩
        have g5:Hid ((it4 d u0 8).1=(a.take (q+1)).foldl numS s2):=by show _=_;rw[b8];exact d7.out
        rw[<-b8]
        clear b8 kx d7
        go_loopg [3,11,12] 8 (fun k vs vu R O=>∃(r:Nat) (A:ByteArray) (u:Int),r<=8/\k=8-r/\R=.int .i64 (r:Int)/\vs=.string A/\vu=.int .u64 u/\Hid (it4 d u0 r=(A,u))/\Hid (Below s.heap.size s O))
        case atStart=>exact⟨0,_,_,by omega,by omega,rfl,rfl,rfl,rfl,b9⟩
        case round =>
         obtain⟨r,A,u,i9,i2,rfl,rfl,rfl,a7,b3⟩:=hrel
         by_cases hr:r<8
         ·have f6:(r:Int)<8:=by omega
          have e2:¬9223372036854775807<A.size+2:=by
           have e:=it4_size d u0 r
           rw[a7.out]at e
           have e':A.size=d.size+2*r:=e
           have:=g1.out
           omega
          have f1:(convert 81 9 (.slice (some ⟨wr.heap.size,0,none⟩) 2 2)).run Tryz.prog (wr.alloc (.cells #[.int .u8 (IntKind.u64.wrap (97+bits .and .u64 u 15) % 256),.int .u8 (IntKind.u64.wrap (97+bits .and .u64 (u / 16) 15) % 256)] 5))=.ok (.string (twoB u)) (wr.alloc (.cells #[.int .u8 (IntKind.u64.wrap (97+bits .and .u64 u 15) % 256),.int .u8 (IntKind.u64.wrap (97+bits .and .u64 (u / 16) 15) % 256)] 5)) :=
           Tryz.convB _ _ _ ((za (zo wr _)).trans rfl) ((za (zo wr _)).trans rfl)
          have c2:Hid (it4 d u0 (r+1)=(A++twoB u,u / 256)):=by
           show (((it4 d u0 r).1++twoB (it4 d u0 r).2,(it4 d u0 r).2 / 256):ByteArray×Int)=_
           rw[a7.out]
          have b0:(twoB u).size=2:=rfl
          obtain⟨c9,c1⟩:∃c9,c9=twoB u:=⟨_,rfl⟩
          rw[<-c1]at f1 c2 b0
          rw[<-b0]at e2
          obtain⟨w7,d2⟩:∃w7,w7=wr.alloc (.cells #[.int .u8 (IntKind.u64.wrap (97+bits .and .u64 u 15) % 256),.int .u8 (IntKind.u64.wrap (97+bits .and .u64 (u / 16) 15) % 256)] 5):=⟨_,rfl⟩
          have f2:Hid (Below s.heap.size s w7):=by rw[d2];exact b3.out.alloc b3.out.size _
          clear c1 b0
          go_wp2_with fail
          rw[<-d2]
          go_roundg (8-(r+1))
          case measure=>omega
          case rel=>exact⟨r+1,_,_,by omega,rfl,by go_num,rfl,rfl,c2,f2⟩
         ·have f6:¬(r:Int)<8:=by omega
          have D:Hid (A=(a.take (q+1)).foldl numS s2):=by
           have h8:r=8:=by omega
           have e:=a7.out
           rw[h8]at e
           show _=_
           rw[<-g5.out,e]
          go_wp2_with fail
          go_roundg (l-(q+1))
          case measure=>omega
          case rel=>exact⟨q+1,_,by omega,rfl,by go_num,rfl,D,b3⟩
       ·have f7:¬(q:Int)<(l:Int):=by omega
        have D:Hid (d=(vars5.take (j+1)).foldl (varS P nm) s1/\d.size<=i*2000000+1000000+(j+1)*500):=by
         have e:d=a.foldl numS s2:=by rw[a3.out,List.take_of_length_le (by have:=c5.out;omega)]
         rw[e]
         exact a8.out
        have e8:Hid (Below w2.heap.size w2 wr):=U.out.trans (b9.out.mono U.out.size)
        go_wp2_with fail
        go_roundg (5-(j+1))
        case measure=>omega
        case rel=>exact⟨j+1,_,by omega,rfl,by go_num,rfl,D,e8⟩
    ·have g0:¬(j:Int)<5:=by omega
     have g9:¬9223372036854775807<b.size+1:=by have:=t.out.2;omega
     have D:Hid (b++⟨#[59]⟩=(ns.take (i+1)).foldl (modS P) ⟨#[]⟩/\(b++⟨#[59]⟩:ByteArray).size<=(i+1)*2000000):=by
      have b4:j=5:=by omega
      refine⟨?_,?_⟩
      ·rw[<-d0.out,t.out.1,b4];rfl
      ·rw[ByteArray.size_append];have:=t.out.2;show _+1<=_;omega
     go_wp2_with fail
     go_roundg (o-(i+1))
     case measure=>omega
     case rel=>exact⟨i+1,_,by omega,rfl,by go_num,rfl,D,a2⟩
  ·have e3:¬(i:Int)<(o:Int):=by omega
   have D:Hid (y=rs):=by
    show y=rs
    rw[f9.out,HS.out.1,List.take_of_length_le (by have:=c8.out;omega)]
   have e6:=d6.out.size
   go_wp2_with fail
   go_ret
   exact⟨by rw[<-D.out];rfl,d6.out.trans (HB.out.mono e6)⟩
theorem all_zero {w:World}{c:Nat}(f:w.heap[c]?=some (.cells #[.slice none 0 0,.map none] 28 (0,0))) :
  Calls Tryz.prog 13 #[.pointer (some ⟨c,0,none⟩)] w fun e w'=>e=.returned (.string ⟨#[]⟩)/\Below w.heap.size w w':=by
 have d:=zh (vF (ns:=[]) f (World.ownsRow_nil _ _ _ _) (by simp))
 clear f
 go_enter Tryz.func13,Tryz.ntmps13
 go_wp2_with fail
 refine d.out.mono ?_
 rintro e k⟨j,rfl,a,b⟩
 obtain⟨i,l,rfl⟩:=zw b
 have g:=zh a
 clear a b d
 have h:([]:List Bs).length=0:=rfl
 rw[h]
 go_wp2_with fail
 refine wp_loop_rounds 1 ?_
 rw[rounds_succ]
 go_wp2_with fail
 go_ret
 exact⟨rfl,g.out⟩
theorem tell_nil (w:World):Calls Tryz.prog 25 #[.nilIface] w fun e w'=>e=.returned (.int .i64 0)/\Below w.heap.size w w':=by
 go_enter Tryz.func25,Tryz.ntmps25
 go_wp2_with fail
 go_ret
 exact⟨rfl,Below.refl _ _⟩
def tellN:Option (Nat×Option Nat)->Nat
 |none=>0
 |some er=>er.1
def EvT (B:Nat) (w':World) (er:Option (Nat×Option Nat)) (ev:Value):Prop:=match er with
 |none=>ev=.nilIface
 |some e=>ErrV B w' e ev
theorem x7 {B b2:Nat}{w' W:World}{er:Option (Nat×Option Nat)}{ev:Value}(h:EvT B w' er ev)(j:b2<B)(g:Ext b2 w' W)(b:ErT W):Calls Tryz.prog 25 #[ev] W fun e d=>e=.returned (.int .i64 (tellN er:Int))/\Below W.heap.size W d:=by
 cases er with
 |none=>obtain rfl:ev=.nilIface:=h;exact tell_nil W
 |some e =>
  obtain⟨n,f⟩:=e
  cases f with
  |none =>
   have i:ev=.iface 44 (.int .i64 (n:Int)):=h
   subst i
   exact tell_en (n:Int) W b
  |some pl =>
   obtain⟨a,rfl,k,c,_⟩:∃a,ev=.iface 117 (.pointer (some ⟨a,0,none⟩))/\B<=a/\w'.cell? ⟨a,0,none⟩=some (.int .i64 (n:Int))/\w'.cell? ⟨a,1,none⟩=some (.int .i64 (pl:Int)):=h
   exact tell_at (n:Int) a W b ((World.cell?_of_block (w:=w') (g.block a (zg c) (by omega))).trans c)
end Go.Proofs.YtibncofnnlbmcaaGreatDoor
