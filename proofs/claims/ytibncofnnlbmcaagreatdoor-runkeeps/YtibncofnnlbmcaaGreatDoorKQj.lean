import Derived.Test.YtibncofnnlbmcaaGreatDoorKQi
import Derived.Test.YtibncofnnlbmcaaGreatDoorKMf
set_option maxRecDepth 100000
set_option maxHeartbeats 4000000
namespace Go.Proofs.YtibncofnnlbmcaaGreatDoor
open Go.RowKit Go.Maps
open Tp (Bs X S G Pr Pt Rs Rr Own)
theorem all_post {X:Nat->Prop}{w:World}{wb:Nat}{L:List Lo}{P:List Pt}{nv:Value}{tb:Nat}(h:WW X w wb L P nv tb)(hL:L.length<=10) :
  Calls Tryz.prog 13 #[.pointer (some ⟨wb,0,none⟩)] w fun e w'=>e=.returned (.string (allB P))/\Below w.heap.size w w':=by
 obtain⟨ns,F⟩:∃ns,ns=L.map fun lo=>lo.m.name:=⟨_,rfl⟩
 have d0:P.map (fun p=>p.m.name)=ns:=by
  have:=congrArg (List.map fun m:Tp.M=>m.name) h.mw
  rw[F]
  simpa[Tp.ms,Function.comp_def] using this
 have HN:=zh (vP (ns:=ns) h.blk (by rw[F];simpa using h.nm) (by rw[F];simp;omega))
 have HW:=zh h
 obtain⟨rs,b3⟩:∃rs,rs=allB P:=⟨_,rfl⟩
 have f6:Hid (rs=ns.foldl (modS P) ⟨#[]⟩):=by show rs=_;rw[b3,<-d0];rfl
 have f5:Hid (∀i (N:i<ns.length),∃lo∈L,lo.m.name=ns[i]/\ns[i].length<=1000000):=fun i N=>by
  have hm:∀x∈ns,∃lo∈L,lo.m.name=x:=by
   rw[F]
   intro x hx
   obtain⟨lo,v,K⟩:=List.mem_map.1 hx
   exact⟨lo,v,K⟩
  obtain⟨lo,v,K⟩:=hm _ (List.getElem_mem N)
  obtain⟨_,_,_,_,e3⟩:=h.lo lo v
  exact⟨lo,v,K,by rw[<-K];exact zQ e3.wm.n⟩
 rw[<-b3]
 have e4:ns.length<=10:=by rw[F];simpa using hL
 clear h d0 b3 F hL
 go_enter Tryz.func13,Tryz.ntmps13
 go_wp2_with fail
 refine HN.out.mono ?_
 rintro e f⟨v',rfl,a8,b2⟩
 obtain⟨na,nc,rfl⟩:=zw b2
 have c3:=zh a8
 have f9:=zh (HW.out.more a8)
 have f4:Hid (∀i (N:i<ns.length),∃y,na=some ⟨y,0,none⟩/\y<f.heap.size/\f.cell? ⟨y,i,none⟩=some (.string (bs ns[i]))):=fun i N=>by
  rcases b2.2 with⟨_,K⟩|⟨g,cap,cur,v,_,h3,h4,h5,h6,h7⟩
  ·omega
  ·injection v with v _ _
   refine⟨g,v,zf h3,?_⟩
   rw[za h3,<-Array.getElem?_toList]
   have:(strs ns)[i]?=some (.string (bs ns[i])):=by simp[strs,N]
   rw[<-this,<-h7,List.getElem?_take_of_lt (by omega)]
 clear a8 b2 HN HW
 obtain⟨l,b1⟩:∃l,l=ns.length:=⟨_,rfl⟩
 have c5:=zh b1
 rw[<-b1]at e4 ⊢
 clear b1
 go_wp2_with fail
 go_loopg [3,5] l (fun k vs vi wr=>∃(i:Nat) (z:ByteArray),i<=l/\k=l-i/\vi=.int .i64 (i:Int)/\vs=.string z/\Hid (z=(ns.take i).foldl (modS P) ⟨#[]⟩/\z.size<=i*2000000)/\Hid (Below f.heap.size f wr))
 case atStart=>exact⟨0,_,by omega,by omega,rfl,rfl,⟨rfl,by decide⟩,Below.refl _ _⟩
 case round =>
  obtain⟨i,z,h9,hk,rfl,rfl,HS,HB⟩:=hrel
  by_cases i3:i<l
  ·have e5:(i:Int)<(l:Int):=by omega
   have h0:¬(i:Int)<0:=by omega
   have a9:i<ns.length:=by have:=c5.out;omega
   obtain⟨y,rfl,e6,d4⟩:=f4.out i a9
   have T:Hid (∀W,Below f.heap.size f W->W.cell? ⟨y,i,none⟩=some (.string (bs ns[i]))):=fun W hW=>(hW.cell (p:=⟨y,i,none⟩) e6).trans d4
   have kn:=T.out wr HB.out
   have g4:y<wr.heap.size:=zg kn
   obtain⟨lo,d3,d2,g3⟩:=f5.out i a9
   have I:Hid (lo∈L/\lo.m.name=ns[i]):=⟨d3,d2⟩
   have c1:¬9223372036854775807<z.size+(bs ns[i]).size:=by rw[yv];have:=HS.out.2;omega
   obtain⟨s1,G⟩:∃s1,s1=z++bs ns[i]:=⟨_,rfl⟩
   have f7:Hid (s1.size<=i*2000000+1000000):=by show _<=_;rw[G,ByteArray.size_append,yv];have:=HS.out.2;omega
   have c6:Hid (vars5.foldl (varS P ns[i]) s1++⟨#[59]⟩=(ns.take (i+1)).foldl (modS P) ⟨#[]⟩):=by
    show _=_
    rw[jM (modS P) _ ns i a9,<-HS.out.1,G]
    rfl
   obtain⟨w2,a0⟩:∃w2,w2=wr.alloc (.cells #[.string ⟨#[120]⟩,.string ⟨#[121]⟩,.string ⟨#[116]⟩,.string ⟨#[117]⟩,.string ⟨#[122]⟩] 9):=⟨_,rfl⟩
   have b6:w2.heap[wr.heap.size]?=some (.cells #[.string ⟨#[120]⟩,.string ⟨#[121]⟩,.string ⟨#[116]⟩,.string ⟨#[117]⟩,.string ⟨#[122]⟩] 9 (0,0)):=by rw[a0];exact zo _ _
   have c4:Hid (Below f.heap.size f w2):=by rw[a0];exact HB.out.alloc HB.out.size _
   obtain⟨O,b7⟩:∃O,O=wr.heap.size:=⟨_,rfl⟩
   rw[<-b7]at b6
   have c8:=zh b6
   clear d4 d3 d2 g3 b6
   obtain⟨nm,d5⟩:∃nm,nm=ns[i]:=⟨_,rfl⟩
   rw[<-d5]at c6 I T kn G c1
   obtain⟨V,a2⟩:∃V,V=bs nm:=⟨_,rfl⟩
   rw[<-a2]at T kn G c1
   have f2:=zh a2
   clear d5 a2
   go_upto_region 8 with fail
   rw[<-a0,<-b7,<-G]
   clear a0 b7 G kn g4
   go_loopg [3,29] 5 (fun k vs Q R=>∃(j:Nat) (b:ByteArray),j<=5/\k=5-j/\Q=.int .i64 (j:Int)/\vs=.string b/\Hid (b=(vars5.take j).foldl (varS P nm) s1/\b.size<=i*2000000+1000000+j*500)/\Hid (Below w2.heap.size w2 R))
   case atStart=>exact⟨0,_,by omega,by omega,rfl,rfl,⟨rfl,by have:=f7.out;omega⟩,Below.refl _ _⟩
   case round =>
    obtain⟨j,b,i1,i2,rfl,rfl,t,E⟩:=hrel
    have a1:Hid (Below f.heap.size f wr):=c4.out.trans (E.out.mono c4.out.size)
    by_cases hj:j<5
    ·have g2:(j:Int)<5:=by omega
     have i0:¬(j:Int)<0:=by omega
     have b0:j<vars5.length:=hj
     have kv:wr.cell? ⟨O,j,none⟩=some (.string (bs vars5[j])):=by
      refine(za ((E.out.block O (zf c8.out)).trans c8.out)).trans ?_
      match j,hj with
      | 0,_=>rfl
      | 1,_=>rfl
      | 2,_=>rfl
      | 3,_=>rfl
      | 4,_=>rfl
     have H:vars5[j].length=1:=by
      match j,hj with
      | 0,_=>rfl
      | 1,_=>rfl
      | 2,_=>rfl
      | 3,_=>rfl
      | 4,_=>rfl
     have g7:O<wr.heap.size:=zg kv
     have d8:=T.out wr a1.out
     have e7:y<wr.heap.size:=zg d8
     have b8:=f9.out.more a1.out
     have D:=get_in b8 I.out.1 vars5[j] (by rw[H];omega)
     rw[I.out.2,<-f2.out]at D
     have Y:∀a,Tp.getW P nm vars5[j]=some a->a.length<=30:=fun a hx=>b8.getlen I.out.1 (by rw[I.out.2];exact hx)
     have U:Hid (varS P nm b vars5[j]=(vars5.take (j+1)).foldl (varS P nm) s1/\(varS P nm b vars5[j]).size<=i*2000000+1000000+(j+1)*500):=by
      refine⟨?_,?_⟩
      ·rw[jM (varS P nm) s1 vars5 j b0,<-t.out.1]
      ·have:=var_size H Y b
       have:=t.out.2
       omega
     have e9:¬9223372036854775807<b.size+(bs vars5[j]).size:=by rw[yv,H];have:=t.out.2;omega
     have g8:¬9223372036854775807<b.size+1:=by have:=t.out.2;omega
     clear b8
     generalize vars5[j]=vq at *
     cases A:Tp.getW P nm vq with
     |none =>
      rw[A]at D
      have HG:Hid (Calls Tryz.prog 23 #[.pointer (some ⟨wb,0,none⟩),.string V,.string (bs vq)] wr fun e w'=>Below wr.heap.size wr w'/\e=.returned (.tuple #[.slice none 0 0,.iface 44 (.int .i64 7)])):=D
      have a7:Hid (b++⟨#[45]⟩=(vars5.take (j+1)).foldl (varS P nm) s1/\(b++⟨#[45]⟩:ByteArray).size<=i*2000000+1000000+(j+1)*500):=by
       have e:varS P nm b vq=b++⟨#[45]⟩:=by unfold varS;rw[A]
       rw[<-e]
       exact U.out
      clear D Y U A H
      generalize bs vq=vnm at *
      go_wp2_with fail
      refine HG.out.mono ?_
      rintro e o⟨J,rfl⟩
      have S:Hid (Below w2.heap.size w2 o):=E.out.trans (J.mono E.out.size)
      clear J
      go_wp2_with fail
      go_roundg (5-(j+1))
      case measure=>omega
      case rel=>exact⟨j+1,_,by omega,rfl,by go_num,rfl,a7,S⟩
     |some a =>
      rw[A]at D
      have e0:=Y a A
      have HG:Hid (Calls Tryz.prog 23 #[.pointer (some ⟨wb,0,none⟩),.string V,.string (bs vq)] wr fun e w'=>Below wr.heap.size wr w'/\∃oa oc,e=.returned (.tuple #[.slice oa a.length oc,.nilIface])/\IntsAt w' a oa):=D
      obtain⟨s2,Z⟩:∃s2,s2=b++bs vq:=⟨_,rfl⟩
      have a7:Hid (a.foldl numS s2=(vars5.take (j+1)).foldl (varS P nm) s1/\(a.foldl numS s2).size<=i*2000000+1000000+(j+1)*500):=by
       have e:varS P nm b vq=a.foldl numS s2:=by unfold varS;rw[A,Z]
       rw[<-e]
       exact U.out
      have e2:Hid (s2.size<=i*2000000+1000000+j*500+1):=by
       show _<=_
       rw[Z,ByteArray.size_append,yv,H]
       have:=t.out.2
       omega
      clear D Y U A H
      obtain⟨s,b9⟩:∃s,s=a.length:=⟨_,rfl⟩
      rw[<-b9]at HG e0
      have c9:=zh b9
      clear b9
      generalize bs vq=vnm at *
      go_wp2_with fail
      refine HG.out.mono ?_
      rintro e o⟨J,oa,oc,rfl,d1⟩
      have S:Hid (Below w2.heap.size w2 o):=E.out.trans (J.mono E.out.size)
      have f3:=zh d1
      clear J d1 kv d8 e7 g7
      go_wp2_with fail
      rw[<-Z]
      clear Z e9
      go_loopg [3,10] s (fun k vs Q R=>∃(q:Nat) (d:ByteArray),q<=s/\k=s-q/\Q=.int .i64 (q:Int)/\vs=.string d/\Hid (d=(a.take q).foldl numS s2)/\Hid (Below o.heap.size o R))
      case atStart=>exact⟨0,_,by omega,by omega,rfl,rfl,rfl,Below.refl _ _⟩
      case round =>
       obtain⟨q,d,i5,i6,rfl,rfl,a5,a3⟩:=hrel
       by_cases hq:q<s
       ·have g5:(q:Int)<(s:Int):=by omega
        have i4:¬(q:Int)<0:=by omega
        have d6:q<a.length:=by have:=c9.out;omega
        obtain⟨xb,xo,rfl,i9,kx⟩:=(f3.out.on a3.out).c q d6
        have c7:Hid (numS d a[q]=(a.take (q+1)).foldl numS s2):=by
         show _=_
         rw[jM numS s2 a q d6,<-a5.out]
        have g0:Hid (d.size<=100000000):=by
         show _<=_
         rw[a5.out,vK,List.length_take]
         have:=e2.out
         omega
        generalize a[q]=x at *
        go_upto_region 19 with fail
        obtain⟨u0,b5⟩:∃u0,u0=IntKind.u64.wrap x:=⟨_,rfl⟩
        have f8:Hid ((it4 d u0 8).1=(a.take (q+1)).foldl numS s2):=by show _=_;rw[b5];exact c7.out
        rw[<-b5]
        clear b5 kx c7
        go_loopg [3,11,12] 8 (fun k vs vu Q R=>∃(r:Nat) (B:ByteArray) (u:Int),r<=8/\k=8-r/\Q=.int .i64 (r:Int)/\vs=.string B/\vu=.int .u64 u/\Hid (it4 d u0 r=(B,u))/\Hid (Below o.heap.size o R))
        case atStart=>exact⟨0,_,_,by omega,by omega,rfl,rfl,rfl,rfl,a3⟩
        case round =>
         obtain⟨r,B,u,i7,i8,rfl,rfl,rfl,a6,a4⟩:=hrel
         by_cases hr:r<8
         ·have g6:(r:Int)<8:=by omega
          have e8:¬9223372036854775807<B.size+2:=by
           have e:=it4_size d u0 r
           rw[a6.out]at e
           have e':B.size=d.size+2*r:=e
           have:=g0.out
           omega
          have g1:(convert 81 9 (.slice (some ⟨wr.heap.size,0,none⟩) 2 2)).run Tryz.prog (wr.alloc (.cells #[.int .u8 (IntKind.u64.wrap (97+bits .and .u64 u 15) % 256),.int .u8 (IntKind.u64.wrap (97+bits .and .u64 (u / 16) 15) % 256)] 5))=.ok (.string (twoB u)) (wr.alloc (.cells #[.int .u8 (IntKind.u64.wrap (97+bits .and .u64 u 15) % 256),.int .u8 (IntKind.u64.wrap (97+bits .and .u64 (u / 16) 15) % 256)] 5)) :=
           Tryz.convB _ _ _ ((za (zo wr _)).trans rfl) ((za (zo wr _)).trans rfl)
          have c0:Hid (it4 d u0 (r+1)=(B++twoB u,u / 256)):=by
           show (((it4 d u0 r).1++twoB (it4 d u0 r).2,(it4 d u0 r).2 / 256):ByteArray×Int)=_
           rw[a6.out]
          have b4:(twoB u).size=2:=rfl
          obtain⟨d9,c2⟩:∃d9,d9=twoB u:=⟨_,rfl⟩
          rw[<-c2]at g1 c0 b4
          rw[<-b4]at e8
          obtain⟨w7,d7⟩:∃w7,w7=wr.alloc (.cells #[.int .u8 (IntKind.u64.wrap (97+bits .and .u64 u 15) % 256),.int .u8 (IntKind.u64.wrap (97+bits .and .u64 (u / 16) 15) % 256)] 5):=⟨_,rfl⟩
          have f1:Hid (Below o.heap.size o w7):=by rw[d7];exact a4.out.alloc a4.out.size _
          clear c2 b4
          go_wp2_with fail
          rw[<-d7]
          go_roundg (8-(r+1))
          case measure=>omega
          case rel=>exact⟨r+1,_,_,by omega,rfl,by go_num,rfl,rfl,c0,f1⟩
         ·have g6:¬(r:Int)<8:=by omega
          have C:Hid (B=(a.take (q+1)).foldl numS s2):=by
           have h8:r=8:=by omega
           have e:=a6.out
           rw[h8]at e
           show _=_
           rw[<-f8.out,e]
          go_wp2_with fail
          go_roundg (s-(q+1))
          case measure=>omega
          case rel=>exact⟨q+1,_,by omega,rfl,by go_num,rfl,C,a4⟩
       ·have g5:¬(q:Int)<(s:Int):=by omega
        have C:Hid (d=(vars5.take (j+1)).foldl (varS P nm) s1/\d.size<=i*2000000+1000000+(j+1)*500):=by
         have e:d=a.foldl numS s2:=by rw[a5.out,List.take_of_length_le (by have:=c9.out;omega)]
         rw[e]
         exact a7.out
        have e1:Hid (Below w2.heap.size w2 wr):=S.out.trans (a3.out.mono S.out.size)
        go_wp2_with fail
        go_roundg (5-(j+1))
        case measure=>omega
        case rel=>exact⟨j+1,_,by omega,rfl,by go_num,rfl,C,e1⟩
    ·have g2:¬(j:Int)<5:=by omega
     have g9:¬9223372036854775807<b.size+1:=by have:=t.out.2;omega
     have C:Hid (b++⟨#[59]⟩=(ns.take (i+1)).foldl (modS P) ⟨#[]⟩/\(b++⟨#[59]⟩:ByteArray).size<=(i+1)*2000000):=by
      have b0:j=5:=by omega
      refine⟨?_,?_⟩
      ·rw[<-c6.out,t.out.1,b0];rfl
      ·rw[ByteArray.size_append];have:=t.out.2;show _+1<=_;omega
     go_wp2_with fail
     go_roundg (l-(i+1))
     case measure=>omega
     case rel=>exact⟨i+1,_,by omega,rfl,by go_num,rfl,C,a1⟩
  ·have e5:¬(i:Int)<(l:Int):=by omega
   have C:Hid (z=rs):=by
    show z=rs
    rw[f6.out,HS.out.1,List.take_of_length_le (by have:=c5.out;omega)]
   have f0:=c3.out.size
   go_wp2_with fail
   go_ret
   exact⟨by rw[<-C.out];rfl,c3.out.trans (HB.out.mono f0)⟩
theorem all_zero {w:World}{f:Nat}(d:w.heap[f]?=some (.cells #[.slice none 0 0,.map none] 28 (0,0))) :
  Calls Tryz.prog 13 #[.pointer (some ⟨f,0,none⟩)] w fun e w'=>e=.returned (.string ⟨#[]⟩)/\Below w.heap.size w w':=by
 have c:=zh (vP (ns:=[]) d (World.ownsRow_nil _ _ _ _) (by simp))
 clear d
 go_enter Tryz.func13,Tryz.ntmps13
 go_wp2_with fail
 refine c.out.mono ?_
 rintro e l⟨k,rfl,a,b⟩
 obtain⟨i,j,rfl⟩:=zw b
 have g:=zh a
 clear a b c
 have h:([]:List Bs).length=0:=rfl
 rw[h]
 go_wp2_with fail
 refine wp_loop_rounds 1 ?_
 rw[rounds_succ]
 go_wp2_with fail
 go_ret
 exact⟨rfl,g.out⟩
theorem tell_nil (w:World):Calls Tryz.prog 25 #[.nilIface] w fun e w'=>e=.returned (.int .i64 0)/\Below w.heap.size w w':=by
 go_enter Tryz.func25,Tryz.ntmps25
 go_wp2_with fail
 go_ret
 exact⟨rfl,Below.refl _ _⟩
def tellN:Option (Nat×Option Nat)->Nat
 |none=>0
 |some er=>er.1
def EvT (B:Nat) (w':World) (er:Option (Nat×Option Nat)) (ev:Value):Prop:=match er with
 |none=>ev=.nilIface
 |some e=>ErrV B w' e ev
theorem xG {B b2:Nat}{w' W:World}{er:Option (Nat×Option Nat)}{ev:Value}(h:EvT B w' er ev)(k:b2<B)(g:Ext b2 w' W)(b:ErT W):Calls Tryz.prog 25 #[ev] W fun e d=>e=.returned (.int .i64 (tellN er:Int))/\Below W.heap.size W d:=by
 cases er with
 |none=>obtain rfl:ev=.nilIface:=h;exact tell_nil W
 |some e =>
  obtain⟨n,i⟩:=e
  cases i with
  |none =>
   have f:ev=.iface 44 (.int .i64 (n:Int)):=h
   subst f
   exact tell_en (n:Int) W b
  |some pl =>
   obtain⟨a,rfl,j,c,_⟩:∃a,ev=.iface 117 (.pointer (some ⟨a,0,none⟩))/\B<=a/\w'.cell? ⟨a,0,none⟩=some (.int .i64 (n:Int))/\w'.cell? ⟨a,1,none⟩=some (.int .i64 (pl:Int)):=h
   exact tell_at (n:Int) a W b ((World.cell?_of_block (w:=w') (g.block a (zg c) (by omega))).trans c)
end Go.Proofs.YtibncofnnlbmcaaGreatDoor
