import Derived.Test.YtibncofnnlbmcaaGreatDoorKMa
set_option maxRecDepth 100000
set_option maxHeartbeats 4000000
namespace Go.Proofs.YtibncofnnlbmcaaGreatDoor
open Go.RowKit Go.Sort
open Tp (Sy)
theorem Tryz.infoSym:(Tryz.prog.info? 205).map (fun i=>(i.zero,i.size,i.bytes))=some (some (.agg #[.string ⟨#[]⟩,.int .i64 0,.int .i64 0]),3,32):=by kernel_rfl
def AskOG (w:World) (gn:Nat) (ga:Option Addr) (xs:Nat->List Sy):Prop :=
 ∀i,i<gn->∃(g:Nat) (x0:List UInt8) (x1 x2:Nat) (x3:Bool),ga=some ⟨g,0,none⟩/\g<w.heap.size/\w.cell? ⟨g,i*4,none⟩=some (.string (bs x0))/\w.cell? ⟨g,i*4+1,none⟩=some (.int .i64 (x1:Int))/\w.cell? ⟨g,i*4+2,none⟩=some (.int .i64 (x2:Int))/\w.cell? ⟨g,i*4+3,none⟩=some (.bool x3) /\
  xs (i+1)=xs i++(if x3 then [(x0,x2,-1)] else [])
def AskOP (w:World) (pn:Nat) (pa:Option Addr) (xs:Nat->List Sy):Prop :=
 ∀i,i<pn->∃(g:Nat) (x0:List UInt8) (x1:Nat) (x2:Bool) (y3 y4 y5:Option Addr) (n3 n4 n5 c3 c4 c5:Nat),pa=some ⟨g,0,none⟩/\g<w.heap.size/\w.cell? ⟨g,i*6,none⟩=some (.string (bs x0))/\w.cell? ⟨g,i*6+1,none⟩=some (.int .i64 (x1:Int))/\w.cell? ⟨g,i*6+2,none⟩=some (.bool x2)/\w.cell? ⟨g,i*6+3,none⟩=some (.slice y3 n3 c3)/\w.cell? ⟨g,i*6+4,none⟩=some (.slice y4 n4 c4)/\w.cell? ⟨g,i*6+5,none⟩=some (.slice y5 n5 c5) /\
  xs (i+1)=xs i++(if x2 then [(x0,0,(n3:Int))] else [])
def SL (w:World) (B:Nat) (v:Value) (l:List Sy):Prop:=v=.slice none 0 0/\l=[]\/∃g cap,v=.slice (some ⟨g,0,none⟩) l.length cap/\B<=g/\SyRow w g cap l
theorem own_syrow {w:World}{a n:Nat}{v:Value}{l:List Sy}(h:w.ownsRow a 205 3 v n (sycs l)):n=l.length/\SL w a v l:=by
 have b:n=l.length:=by have:=h.1;rw[sycs_len]at this;omega
 refine⟨b,?_⟩
 rcases h.2 with⟨rfl,c⟩|⟨g,cap,cur,rfl,q1,q2,q3,q4,q5,q6⟩
 ·exact Or.inl ⟨rfl,List.eq_nil_of_length_eq_zero (by omega)⟩
 ·subst b
  exact Or.inr ⟨g,cap,rfl,q1,⟨⟨cur,q2,q5,q6⟩,q3,q4⟩⟩
theorem newsSy (w:World)(o:Obj)(a b c:Value)(t:TypeId):∀(j:Nat) (u:Value),([a,b,c]:List Value)[j]?=some u->((w.alloc o).alloc (.cells #[a,b,c] t)).cell? ((⟨w.heap.size+1,0,none⟩:Addr).add j)=some u:=by
 intro j u d
 rw[Addr.add_lit,za (yj _ _ _),Nat.zero_add]
 simpa using d
theorem of_walk {w:World}{nm:List UInt8}{x gn pn A D B t z:Nat}{C r m y:Option Addr}{mg mp:Nat->List Sy}(b0:mg 0=[])(hG:AskOG w gn r mg)(b3:mp 0=mg gn)(hP:AskOP w pn m mp)(b1:∀i,(mg i).length<=1000)(b4:∀i,(mp i).length<=1000)(a0:(mp pn).length<=20)(e8:gn<=1000000000)(f2:pn<=1000000000) :
  Calls Tryz.prog 84 #[.agg #[.string (bs nm),.slice C x D,.slice r gn B,.slice m pn t,.slice y A z]] w fun e w'=>∃v,e=.returned v/\Below w.heap.size w w'/\SL w' w.heap.size v (srt (mp pn)):=by
 obtain⟨i3,b2,a2,a3,a4⟩:=info_parts Tryz.infoSym
 have P:(w.alloc (.cells #[.string (bs nm),.slice C x D,.slice r gn B,.slice m pn t,.slice y A z] 36)).heap[w.heap.size]?=some (.cells #[.string (bs nm),.slice C x D,.slice r gn B,.slice m pn t,.slice y A z] 36 (0,0)):=zo _ _
 obtain⟨k0,k1,k2,W,k4⟩:=ym P
 have a6:=zh b0
 have HG:=zh hG
 have R:=zh b3
 have T:=zh hP
 have c8:=zh a0
 have c7:=zh b1
 have c9:=zh b4
 have HK:=zh P
 have e5:(gn:Int)<=1000000000:=by omega
 have e6:(pn:Int)<=1000000000:=by omega
 clear b0 hG b3 hP a0 b1 b4 P k0 k1 W k4
 go_enter Tryz.func84,Tryz.ntmps84
 go_wp2_with fail
 go_loopg [3,11] gn (fun k v Y wr=>∃i:Nat,i<=gn/\k=gn-i/\Y=.int .i64 (i:Int)/\Hid (wr.ownsRow (w.heap.size+1) 205 3 v (mg i).length (sycs (mg i)))/\Hid (Below (w.heap.size+1) (w.alloc (.cells #[.string (bs nm),.slice C x D,.slice r gn B,.slice m pn t,.slice y A z] 36)) wr))
 case atStart=>exact⟨0,by omega,by omega,rfl,by unfold Hid;rw[a6.out];exact World.ownsRow_nil _ _ _ _,Below.refl _ _⟩
 case round =>
  obtain⟨i,d2,s,rfl,l,b⟩:=hrel
  have a:=l.out
  have L:=c7.out i
  have M:=b.out.size
  have e7:(w.alloc (.cells #[.string (bs nm),.slice C x D,.slice r gn B,.slice m pn t,.slice y A z] 36)).heap.size=w.heap.size+1:=by simp
  by_cases d7:i<gn
  ·have b7:(i:Int)<(gn:Int):=by omega
   obtain⟨g,f,x1,x2,x3,d1,d0,I,G,c2,c3,K⟩:=HG.out i d7
   subst d1
   have c:∀(o:Nat) (u:Value),w.cell? ⟨g,o,none⟩=some u->wr.cell? ⟨g,o,none⟩=some u:=fun o u h=>(b.out.cell (p:=⟨g,o,none⟩) (by simp;omega)).trans (yf h _)
   have e1:=c _ _ I
   have e2:=c _ _ G
   have e3:=c _ _ c2
   have e4:=c _ _ c3
   have b6:g<wr.heap.size:=by omega
   obtain⟨U,c1,V⟩:=zw a
   subst V
   clear I G c2 c3 c l
   cases x3 with
   |true =>
    have n:=(a.alloc (.cells #[.string (bs f),.int .i64 (x1:Int),.int .i64 (x2:Int),.bool true] 61)).alloc (.cells #[.string (bs f),.int .i64 (x2:Int),.int .i64 (-1)] 205)
    go_wp2_with (at_builtin;refine zC _ rfl _ _ 149 rfl (w.heap.size+1) 205 i3 (.agg #[.string ⟨#[]⟩,.int .i64 0,.int .i64 0]) 3 32 Tryz.underlying149 b2 a2 a3 a4 rfl (by decide) _ _ _ rfl n ⟨wr.heap.size+1,0,none⟩ 1 1 [.string (bs f),.int .i64 (x2:Int),.int .i64 (-1)] rfl rfl (newsSy wr _ _ _ _ _) (by intro u J;simp at J;rcases J with rfl|rfl|rfl<;>rfl) (by unfold maxLen;omega) (by omega) (by simp;omega) ?_)
    intro X Z F E _
    have d:=zh ((((b.out.alloc (by omega) _).alloc (by simp;omega) _)).grown E (by simp;omega) (fun k s=>(n.lt k s).1))
    have q:Hid (Z.ownsRow (w.heap.size+1) 205 3 X (mg (i+1)).length (sycs (mg (i+1)))):=by
     unfold Hid
     rw[show mg (i+1)=mg i++[(f,x2,(-1))] by simpa using K,sycs_app,List.length_append]
     exact F
    clear F E n a
    go_wp2_with fail
    go_roundg (gn-(i+1))
    case measure=>omega
    case rel=>exact⟨i+1,by omega,rfl,by go_num,q,d⟩
   |false =>
    have d:∀ob,Below (w.heap.size+1) _ (wr.alloc ob):=fun ob=>b.out.alloc (by omega) _
    have q:∀ob,Hid ((wr.alloc ob).ownsRow (w.heap.size+1) 205 3 (.slice U (mg i).length c1) (mg (i+1)).length (sycs (mg (i+1)))):=by
     intro ob
     unfold Hid
     rw[show mg (i+1)=mg i by simpa using K]
     exact a.alloc ob
    have O:=zh d
    clear a d
    go_wp2_with fail
    go_roundg (gn-(i+1))
    case measure=>omega
    case rel=>exact⟨i+1,by omega,rfl,by go_num,q _,O.out _⟩
  ·have b7:¬(i:Int)<(gn:Int):=by omega
   have a9:i=gn:=by omega
   have a8:Hid (wr.ownsRow (w.heap.size+1) 205 3 u3 (mp 0).length (sycs (mp 0))):=by unfold Hid;rw[R.out,<-a9];exact a
   have a5:=b
   have W:wr.cell? ⟨w.heap.size,3,none⟩=some (.slice m pn t):=(b.out.cell (p:=⟨w.heap.size,3,none⟩) (by simp)).trans (ym HK.out).2.2.2.1
   have b9:w.heap.size<wr.heap.size:=by omega
   clear l a b HG a6 a9 d2 s L M k2
   go_wp2_with fail
   go_loopg [3,29] pn (fun k v Y wr=>∃i:Nat,i<=pn/\k=pn-i/\Y=.int .i64 (i:Int)/\Hid (wr.ownsRow (w.heap.size+1) 205 3 v (mp i).length (sycs (mp i)))/\Hid (Below (w.heap.size+1) (w.alloc (.cells #[.string (bs nm),.slice C x D,.slice r gn B,.slice m pn t,.slice y A z] 36)) wr))
   case atStart=>exact⟨0,by omega,by omega,rfl,a8,a5⟩
   case round =>
    obtain⟨j,e9,f0,rfl,l,b⟩:=hrel
    clear a8 a5 W b9
    have a:=l.out
    have L:=c9.out j
    have M:=b.out.size
    by_cases b8:j<pn
    ·have b5:(j:Int)<(pn:Int):=by omega
     obtain⟨g,f,x1,x2,y3,y4,y5,N,n4,n5,d3,d4,d5,d8,d0,I,G,c2,c3,c4,c5,K⟩:=T.out j b8
     subst d8
     have c:∀(o:Nat) (u:Value),w.cell? ⟨g,o,none⟩=some u->wr.cell? ⟨g,o,none⟩=some u:=fun o u h=>(b.out.cell (p:=⟨g,o,none⟩) (by simp;omega)).trans (yf h _)
     have e1:=c _ _ I
     have e2:=c _ _ G
     have e3:=c _ _ c2
     have e4:=c _ _ c3
     have f3:=c _ _ c4
     have f4:=c _ _ c5
     have b6:g<wr.heap.size:=by omega
     obtain⟨U,c1,V⟩:=zw a
     subst V
     clear I G c2 c3 c4 c5 c l
     cases x2 with
     |true =>
      have n:=(a.alloc (.cells #[.string (bs f),.int .i64 (x1:Int),.bool true,.slice y3 N d3,.slice y4 n4 d4,.slice y5 n5 d5] 65)).alloc (.cells #[.string (bs f),.int .i64 0,.int .i64 (N:Int)] 205)
      go_wp2_with (at_builtin;refine zC _ rfl _ _ 149 rfl (w.heap.size+1) 205 i3 (.agg #[.string ⟨#[]⟩,.int .i64 0,.int .i64 0]) 3 32 Tryz.underlying149 b2 a2 a3 a4 rfl (by decide) _ _ _ rfl n ⟨wr.heap.size+1,0,none⟩ 1 1 [.string (bs f),.int .i64 0,.int .i64 (N:Int)] rfl rfl (newsSy wr _ _ _ _ _) (by intro u J;simp at J;rcases J with rfl|rfl|rfl<;>rfl) (by unfold maxLen;omega) (by omega) (by simp;omega) ?_)
      intro X Z F E _
      have d:=zh ((((b.out.alloc (by omega) _).alloc (by simp;omega) _)).grown E (by simp;omega) (fun k s=>(n.lt k s).1))
      have q:Hid (Z.ownsRow (w.heap.size+1) 205 3 X (mp (j+1)).length (sycs (mp (j+1)))):=by
       unfold Hid
       rw[show mp (j+1)=mp j++[(f,0,(N:Int))] by simpa using K,sycs_app,List.length_append]
       exact F
      clear F E n a
      go_wp2_with fail
      go_roundg (pn-(j+1))
      case measure=>omega
      case rel=>exact⟨j+1,by omega,rfl,by go_num,q,d⟩
     |false =>
      have d:∀ob,Below (w.heap.size+1) _ (wr.alloc ob):=fun ob=>b.out.alloc (by omega) _
      have q:∀ob,Hid ((wr.alloc ob).ownsRow (w.heap.size+1) 205 3 (.slice U (mp j).length c1) (mp (j+1)).length (sycs (mp (j+1)))):=by
       intro ob
       unfold Hid
       rw[show mp (j+1)=mp j by simpa using K]
       exact a.alloc ob
      have O:=zh d
      clear a d
      go_wp2_with fail
      go_roundg (pn-(j+1))
      case measure=>omega
      case rel=>exact⟨j+1,by omega,rfl,by go_num,q _,O.out _⟩
    ·have b5:¬(j:Int)<(pn:Int):=by omega
     have S:j=pn:=by omega
     rw[S]at a
     obtain⟨f1,d9⟩:=own_syrow a
     have Q:Hid (Below w.heap.size w wr):=(((Below.refl w.heap.size w).alloc zn _).trans (b.out.mono (by omega)))
     rcases d9 with⟨rfl,c6⟩|⟨g,cap,rfl,hge,hrow⟩
     ·have H:=zh (sort_nil wr)
      have e0:srt (mp pn)=[]:=List.eq_nil_of_length_eq_zero (by rw[kX,c6];rfl)
      unfold fnCmp at H
      clear a l b T R S L M
      go_wp2_with fail
      refine H.out.mono ?_
      rintro e w9⟨rfl,rfl⟩
      go_wp2_with fail
      go_ret
      exact⟨_,rfl,Q.out,Or.inl ⟨rfl,e0⟩⟩
     ·have H:=zh (sort_post hrow c8.out)
      have a7:=zh hge
      unfold fnCmp at H
      have d6:(srt (mp pn)).length=(mp pn).length:=kX _
      generalize (mp pn).length=ln at *
      clear a l b T R S L M hrow hge
      go_wp2_with fail
      refine H.out.mono ?_
      rintro e w9⟨rfl,h9,g9⟩
      have H9:=zh h9
      have G9:=zh g9
      clear h9 g9
      go_wp2_with fail
      go_ret
      refine⟨.slice (some ⟨g,0,none⟩) ln cap,rfl,Q.out.trans ?_,Or.inr ⟨g,cap,by rw[d6],by have:=a7.out;omega,H9.out⟩⟩
      exact(Below.refl w.heap.size wr).grown G9.out (by have:=Q.out.size;omega) (fun k s=>by cases s;have:=a7.out;omega)
end Go.Proofs.YtibncofnnlbmcaaGreatDoor
namespace Go.Proofs.YtibncofnnlbmcaaGreatDoor
open Go.RowKit Go.Sort
open Tp (Sy G Pr)
theorem uk {α β:Type}(p:α->Bool)(f:α->β)(l:List α)(i:Nat)(h:i<l.length):((l.take (i+1)).filter p).map f=((l.take i).filter p).map f++(if p l[i] then [f l[i]] else []):=by
 rw[List.take_succ_eq_append_getElem h,List.filter_append,List.map_append]
 congr 1
 by_cases a:p l[i]=true
 ·simp[a]
 ·simp[a]
theorem filt_len {α β:Type}(p:α->Bool)(f:α->β)(l:List α):((l.filter p).map f).length<=l.length:=by
 rw[List.length_map];exact List.length_filter_le _ _
def AllSmall (l:List Sy):Prop:=∀s∈l,s.2.1<100/\s.2.2<100/\-1<=s.2.2/\s.1.length<=100
theorem uO {m:Tp.M}(I:m.vars.length<=10)(K:m.procs.length<=10){w:World}{y u C s:Option Addr}{z x D t:Nat}(h:MB w w.heap.size m y u C s z x D t) :
  Calls Tryz.prog 84 #[.agg (mcells (bs m.name) (.slice y m.imports.length z) (.slice u m.vars.length x) (.slice C m.procs.length D) (.slice s m.body.length t))] w fun e w'=>∃v,e=.returned v/\Below w.heap.size w w'/\SL w' w.heap.size v (srt (Tp.symsOf m)):=by
 obtain⟨nm,is,a,ps,F⟩:=m
 obtain⟨L,A,B⟩:=h.pr
 have q:=h.gl
 simp only at q A B I K
 obtain⟨mg,d⟩:∃mg:Nat->List Sy,mg=fun i=>((a.take i).filter (·.seen)).map Tp.syG:=⟨_,rfl⟩
 obtain⟨mp,f⟩:∃mp:Nat->List Sy,mp=fun i=>mg a.length++((ps.take i).filter (·.seen)).map Tp.syP:=⟨_,rfl⟩
 have E:mp ps.length=Tp.symsOf ⟨nm,is,a,ps,F⟩:=by rw[f,d];simp[Tp.symsOf]
 have H:mg 0=[]:=by rw[d];simp
 have J:mp 0=mg a.length:=by rw[f];simp
 have r:∀i,(mg i).length<=10:=by
  intro i;rw[d];have:=filt_len (fun g:G=>g.seen) Tp.syG (a.take i);simp only[List.length_take]at this ⊢;omega
 have b2:∀i,(mp i).length<=20:=by
  intro i;rw[f];have:=filt_len (fun p:Pr=>p.seen) Tp.syP (ps.take i);have:=r a.length;simp only[List.length_take,List.length_append]at *;omega
 rw[<-E]
 refine of_walk (mg:=mg) (mp:=mp) (gn:=a.length) (pn:=ps.length) H ?_ J ?_ (fun i=>by have:=r i;omega) (fun i=>by have:=b2 i;omega) (b2 _) (by omega) (by omega)
 ·intro i c
  obtain⟨g,cap,l,P,n,o⟩:=yu q (by omega)
  cases l
  have b:=fun j (k:j<4)=>(o (i*4+j) (by omega)).trans (xT a i c j k)
  refine⟨g,a[i].name,a[i].pos,a[i].len,a[i].seen,rfl,n,b 0 (by omega),b 1 (by omega),b 2 (by omega),b 3 (by omega),?_⟩
  rw[d]
  exact uk (fun g:G=>g.seen) Tp.syG a i c
 ·intro i c
  obtain⟨g,cap,l,P,n,o⟩:=yu B (by omega)
  cases l
  obtain⟨Z,vv,Y,X,Q,R,S,r4,T⟩:=jq ps L A i c
  have b:=fun j (k:j<6)=>(o (i*6+j) (by omega)).trans (Q j k)
  obtain⟨U,c3,rfl⟩:=R.shape
  obtain⟨V,N,rfl⟩:=S.shape
  obtain⟨W,O,rfl⟩:=T.shape
  refine⟨g,ps[i].name,ps[i].pos,ps[i].seen,U,V,W,ps[i].params.length,ps[i].vars.length,ps[i].body.length,c3,N,O,rfl,n,b 0 (by omega),b 1 (by omega),b 2 (by omega),b 3 (by omega),b 4 (by omega),b 5 (by omega),?_⟩
  rw[f]
  simp only[List.append_assoc]
  congr 1
  exact uk (fun p:Pr=>p.seen) Tp.syP ps i c
theorem SL.len {w:World}{B:Nat}{v:Value}{l:List Sy}(h:SL w B v l):∃a c,v=.slice a l.length c:=by
 rcases h with⟨rfl,rfl⟩|⟨g,cap,rfl,_⟩
 ·exact⟨none,0,rfl⟩
 ·exact⟨_,_,rfl⟩
theorem SL.cell {w:World}{B:Nat}{a:Option Addr}{n c:Nat}{l:List Sy}(h:SL w B (.slice a n c) l)(i:Nat)(d:i<l.length):∃g,a=some ⟨g,0,none⟩/\B<=g/\g<w.heap.size/\∀j,j<3->w.cell? ⟨g,i*3+j,none⟩=(encSy l[i])[j]?:=by
 rcases h with⟨_,rfl⟩|⟨g,cap,q1,q2,q3⟩
 ·simp at d
 ·cases q1
  obtain⟨m,e,o,k⟩:=q3.b
  refine⟨g,rfl,q2,zf e,fun j f=>?_⟩
  rw[za e,<-Array.getElem?_toList,<-sycs_get l i d j f,<-k,List.getElem?_take_of_lt (by omega)]
theorem SL.on {w w':World}{B:Nat}{v:Value}{l:List Sy}(h:SL w B v l)(k:Below w.heap.size w w'):SL w' B v l:=by
 rcases h with q|⟨g,cap,e,f,a⟩
 ·exact Or.inl q
 ·obtain⟨d,c,i,j⟩:=a.b
  exact Or.inr ⟨g,cap,e,f,⟨⟨d,(k.block g (zf c)).trans c,i,j⟩,a.n,a.m⟩⟩
end Go.Proofs.YtibncofnnlbmcaaGreatDoor
namespace Go.Proofs.YtibncofnnlbmcaaGreatDoor
open Go.RowKit Go.Sort
open Tp (Sy)
theorem bs_inj {a b:List UInt8}(h:bs a=bs b):a=b:=by
 have:=congrArg (fun x:ByteArray=>x.data.toList) h
 simpa[bs] using this
theorem find1_post (s:Sy)(n:List UInt8)(W:World)(a:Nat)(b:W.cell? ⟨a,0,none⟩=some (.string (bs n))) :
  Calls Tryz.prog 156 #[.agg #[.string (bs s.1),.int .i64 (s.2.1:Int),.int .i64 s.2.2],.pointer (some ⟨a,0,none⟩)] W fun e w'=>e=.returned (.bool (decide (s.1=n)))/\Below W.heap.size W w':=by
 obtain⟨nm,x1,x2⟩:=s
 simp only
 have c:=World.block_lt_of_cell? _ _ b
 by_cases h:nm=n
 ·subst h
  go_enter Tryz.func156,Tryz.ntmps156
  go_wp2_with fail
  go_ret
  exact⟨by simp,zb _ _⟩
 ·have d:¬bs nm=bs n:=fun e=>h (bs_inj e)
  go_enter Tryz.func156,Tryz.ntmps156
  go_wp2_with fail
  go_ret
  exact⟨by simp[h,zj],zb _ _⟩
def fidx (l:List Sy) (n:List UInt8):Int:=match l.findIdx? (fun s=>s.1==n) with
 |some i=>(i:Int)
 |none=>-1
theorem fidx_at {l:List Sy}{n:List UInt8}{i:Nat}(b:i<l.length)(h:l[i].1=n)(a:∀k (hk:k<i),l[k].1≠n):fidx l n=(i:Int):=by
 unfold fidx
 have:l.findIdx? (fun s=>s.1==n)=some i:=by
  rw[List.findIdx?_eq_some_iff_getElem]
  exact⟨b,by simpa using h,fun j c=>by simpa using a j c⟩
 rw[this]
theorem fidx_no {l:List Sy}{n:List UInt8}(b:∀k (a:k<l.length),l[k].1≠n):fidx l n=-1:=by
 unfold fidx
 have:l.findIdx? (fun s=>s.1==n)=none:=by
  rw[List.findIdx?_eq_none_iff]
  intro x c
  obtain⟨k,a,rfl⟩:=List.getElem_of_mem c
  simpa using b k a
 rw[this]
theorem index_post {w:World}{B:Nat}{v:Value}{l:List Sy}(h:SL w B v l)(V:l.length<=1000)(n:List UInt8)(o:Nat)(f:w.cell? ⟨o,0,none⟩=some (.string (bs n))) :
  Calls Tryz.prog 155 #[v,.func (.func 156) #[] #[.pointer (some ⟨o,0,none⟩)]] w fun e w'=>e=.returned (.int .i64 (fidx l n))/\Below w.heap.size w w':=by
 obtain⟨a,c,rfl⟩:=h.len
 have K:(l.length:Int)<=1000:=by omega
 have D:=World.block_lt_of_cell? _ _ f
 have H:=zh h
 have M:=zh f
 obtain⟨d,r⟩:∃d,d=l.length:=⟨_,rfl⟩
 rw[<-r]at K ⊢
 have z:=zh r
 clear h r f
 go_enter Tryz.func155,Tryz.ntmps155
 go_wp2_with fail
 go_loopg [8] d (fun k P wr=>∃i:Nat,i<=d/\k=d-i/\P=.int .i64 (i:Int)/\Hid (∀k (b:k<l.length),k<i->l[k].1≠n)/\Hid (Below w.heap.size w wr))
 case atStart=>exact⟨0,by omega,by omega,rfl,fun k _ b=>by omega,Below.refl _ _⟩
 case round =>
  obtain⟨i,R,b,rfl,s,m⟩:=hrel
  by_cases J:i<d
  ·have C:(i:Int)<(d:Int):=by omega
   have y:i<l.length:=by have:=z.out;omega
   obtain⟨g,rfl,_,I,u⟩:=H.out.cell i y
   have f:=fun j (O:j<3)=>(m.out.cell (p:=⟨g,i*3+j,none⟩) I).trans (u j O)
   have S:wr.cell? ⟨g,i*3,none⟩=some (.string (bs l[i].1)):=f 0 (by omega)
   have T:wr.cell? ⟨g,i*3+1,none⟩=some (.int .i64 (l[i].2.1:Int)):=f 1 (by omega)
   have U:wr.cell? ⟨g,i*3+2,none⟩=some (.int .i64 l[i].2.2):=f 2 (by omega)
   have Q:g<wr.heap.size:=by have:=m.out.size;omega
   have N:=zh (find1_post l[i] n wr o ((m.out.cell (p:=⟨o,0,none⟩) D).trans M.out))
   have E:Hid (l[i].1=n->fidx l n=(i:Int)):=fun e=>fidx_at y e (fun k b=>s.out k (by omega) b)
   have G:Hid (¬l[i].1=n->∀k (b:k<l.length),k<i+1->l[k].1≠n):=by
    intro L k b J
    by_cases e:k=i
    ·subst e;exact L
    ·exact s.out k b (by omega)
   clear f u
   generalize l[i].1=x0 at *
   generalize l[i].2.1=x1 at *
   generalize l[i].2.2=x2 at *
   go_wp2_with fail
   refine N.out.mono ?_
   rintro e W⟨rfl,A⟩
   have x:=zh (m.out.trans (A.mono m.out.size))
   clear A
   by_cases q:x0=n
   ·rw[decide_eq_true q]
    have t:=E.out q
    go_wp2_with fail
    go_ret
    exact⟨by first|rfl|(rw[t];rfl),x.out⟩
   ·rw[decide_eq_false q]
    have F:=zh (G.out q)
    go_wp2_with fail
    go_roundg (d-(i+1))
    case measure=>omega
    case rel=>exact⟨i+1,by omega,rfl,by go_num,F,x⟩
  ·have C:¬(i:Int)<(d:Int):=by omega
   have t:fidx l n=-1:=fidx_no (fun k b=>s.out k b (by have:=z.out;omega))
   go_wp2_with fail
   go_ret
   exact⟨by first|rfl|(rw[t];rfl),m.out⟩
theorem uj {w:World}{B:Nat}{v:Value}{l:List Sy}(h:SL w B v l)(j:l.length<=1000)(n:List UInt8) :
  Calls Tryz.prog 127 #[v,.string (bs n)] w fun e w'=>e=.returned (.int .i64 (fidx l n))/\Below w.heap.size w w':=by
 have k:=zm
 have b:Below w.heap.size w (w.alloc (.cells #[.string (bs n)] 9)):=zb _ _
 have i:=zh (index_post (h.on b) j n w.heap.size (za (zo _ _)))
 have f:=zh b
 obtain⟨a,c,rfl⟩:=h.len
 clear h
 generalize l.length=ln at *
 go_enter Tryz.func127,Tryz.ntmps127
 go_wp2_with fail
 refine i.out.mono ?_
 rintro e m⟨rfl,d⟩
 have g:=zh (f.out.trans (d.mono (by simp)))
 clear d
 go_wp2_with fail
 go_ret
 exact⟨rfl,g.out⟩
end Go.Proofs.YtibncofnnlbmcaaGreatDoor
namespace Go.Proofs.YtibncofnnlbmcaaGreatDoor
open Go.RowKit Go.Maps
open Tp (Bs Th Sy Seen)
def SeenM (w:World) (sb n:Nat) (S:Seen):Prop:=∃f,MapV w sb n f/\∀k,match S k with
 |none=>f k=none
 |some l=>∃v,f k=some v/\SL w 0 v l/\l.length<=1000
theorem MapV.blk {w:World}{b n:Nat}{f:Bs->Option Value}(h:MapV w b n f):∃a c,w.heap[b]?=some (.map a c):=by
 obtain⟨D,⟨a,clock,d,_⟩,_⟩:=h.own
 exact⟨a,clock,d⟩
theorem SL.ext {w w':World}{B b:Nat}{v:Value}{l:List Sy}(h:SL w B v l)(k:Ext b w w')(o:∃f c,w.heap[b]?=some (.map f c)):SL w' B v l:=by
 rcases h with q|⟨g,cap,r,s,d⟩
 ·exact Or.inl q
 ·obtain⟨i,a,t,u⟩:=d.b
  obtain⟨f,c,p⟩:=o
  have j:g≠b:=fun e=>by rw[e,p]at a;cases a
  exact Or.inr ⟨g,cap,r,s,⟨⟨i,(k.block g (zf a) j).trans a,t,u⟩,d.n,d.m⟩⟩
theorem SL.shape {w:World}{B:Nat}{v:Value}{l:List Sy}(h:SL w B v l):∃a c,v=.slice a l.length c:=h.len
theorem SeenM.on {w w':World}{g n:Nat}{S:Seen}(h:SeenM w g n S)(k:Below w.heap.size w w'):SeenM w' g n S:=by
 obtain⟨f,d,i⟩:=h
 refine⟨f,d.on (k.block _ d.lt),fun q=>?_⟩
 have:=i q
 cases e:S q with
 |none=>rw[e]at this;exact this
 |some l=>rw[e]at this;obtain⟨v,a,b,c⟩:=this;exact⟨v,a,b.on k,c⟩
theorem SeenM.lt {w:World}{a n:Nat}{S:Seen}(h:SeenM w a n S):a<w.heap.size:=by
 obtain⟨f,b,_⟩:=h
 exact b.lt
theorem SeenM.ext {w w':World}{d n b:Nat}{S:Seen}(h:SeenM w d n S)(k:Ext b w w')(m:∃es c,w.heap[b]?=some (.map es c))(i:d≠b):SeenM w' d n S:=by
 obtain⟨f,e,j⟩:=h
 refine⟨f,e.on (k.block _ e.lt i),fun q=>?_⟩
 have:=j q
 cases g:S q with
 |none=>rw[g]at this;exact this
 |some l=>rw[g]at this;obtain⟨v,a,b,c⟩:=this;exact⟨v,a,b.ext k m,c⟩
def SeenV (w:World) (sv:Value) (S:Seen):Prop:=(sv=.map none/\∀k,S k=none)\/∃sb n,sv=.map (some sb)/\SeenM w sb n S
theorem SeenV.on {w w':World}{a:Value}{S:Seen}(h:SeenV w a S)(k:Below w.heap.size w w'):SeenV w' a S:=by
 rcases h with q|⟨d,n,b,c⟩
 ·exact Or.inl q
 ·exact Or.inr ⟨d,n,b,c.on k⟩
theorem SeenM.look {w:World}{i n:Nat}{S:Seen}(h:SeenM w i n S)(l:Bs)(m:l.length<=1000000)(c:Bool):∃v,(Instr.lookup 90 (.map (some i)) (.string (bs l)) c).run Tryz.prog w=.ok (if c then .tuple #[v,.bool (S l).isSome] else v) w/\(∃a n d,v=.slice a n d)/\SL w 0 v ((S l).getD [])/\((S l).getD []).length<=1000:=by
 obtain⟨f,j,k⟩:=h
 have e:=j.look (t:=90) Tryz.underlying90 (zeroSyms w) l m c
 have:=k l
 cases g:S l with
 |none =>
  rw[g]at this
  rw[this]at e
  exact⟨_,e,⟨none,0,0,rfl⟩,Or.inl ⟨rfl,rfl⟩,by simp⟩
 |some ll =>
  rw[g]at this
  obtain⟨v,a,b,d⟩:=this
  rw[a]at e
  obtain⟨p,c1,o⟩:=b.shape
  exact⟨_,e,⟨_,_,_,o⟩,b,d⟩
theorem SeenV.look {w:World}{e:Value}{S:Seen}(h:SeenV w e S)(l:Bs)(b:l.length<=1000000)(c:Bool):∃v,(Instr.lookup 90 e (.string (bs l)) c).run Tryz.prog w=.ok (if c then .tuple #[v,.bool (S l).isSome] else v) w/\(∃a n d,v=.slice a n d)/\SL w 0 v ((S l).getD [])/\((S l).getD []).length<=1000:=by
 rcases h with⟨rfl,f⟩|⟨sb,n,rfl,h1⟩
 ·have g:=kB w (t:=90) Tryz.underlying90 (zeroSyms w) l b c
  rw[f l]
  exact⟨_,g,⟨none,0,0,rfl⟩,Or.inl ⟨rfl,rfl⟩,by simp⟩
 ·exact h1.look l b c
theorem SeenM.store {w w':World}{d n:Nat}{S:Seen}{f:Bs->Option Value}(g:MapV w d n f)(h:∀k,match S k with
 |none=>f k=none
 |some l=>∃v,f k=some v/\SL w 0 v l/\l.length<=1000){x:Bs}{v:Value}{l:List Sy}(p:SL w 0 v l)(o:l.length<=1000)(m:MapV w' d (n+1) (updV f x v))(e:Ext d w w'):SeenM w' d (n+1) (fun k=>if k=x then some l else S k):=by
 refine⟨_,m,fun k=>?_⟩
 by_cases i:k=x
 ·simp only[if_pos i,updV]
  exact⟨v,rfl,p.ext e g.blk,o⟩
 ·simp only[if_neg i,updV]
  have:=h k
  cases j:S k with
  |none=>rw[j]at this;exact this
  |some ll=>rw[j]at this;obtain⟨u,a,b,c⟩:=this;exact⟨u,a,b.ext e g.blk,c⟩
theorem kF (w:World){ops:Array Oper}{rest:List Oper}{o:Oper}{a:Act}{Q:Exit->Act->World->Prop}
  (r:o.guard=none)(m x v:Operand)(i:o.op=Op.mapUpdate 90 m x v)
  (b n:Nat)(S:Seen)(g:SeenM w b n S)(u:n<1000000)(l:Bs)(s:l.length<=1000000)(val:Value)(c:List Sy)(j:SL w 0 val c)(h:c.length<=1000)(t:a.eval m=.map (some b))(z:a.eval x=.string (bs l))(y:a.eval v=val)
  (q:∀w',SeenM w' b (n+1) (fun k=>if k=l then some c else S k)->Ext b w w'->w'.heap.size=w.heap.size->wpList Tryz.prog ops Q rest (a.put o.dst undef) w') :
  wpList Tryz.prog ops Q (o :: rest) a w:=by
 obtain⟨f,d,p⟩:=g
 exact zW w r m x v _ i _ Tryz.underlying90 b n f d u l s val t z y (fun w' A e B=>q w' (SeenM.store d p j h A e) e B)
def impsAt (own:Bs) (S:Seen) (l:List Bs) (i:Nat):Tp.Ck:=Tp.imps own S (l.take i).reverse (l.drop i)
theorem uZ (own:Bs)(S:Seen)(l:List Bs):impsAt own S l 0=Tp.imps own S [] l:=by simp[impsAt]
theorem impsAt_all (own:Bs)(S:Seen)(l:List Bs):impsAt own S l l.length=none:=by simp[impsAt,Tp.imps]
theorem qd (own:Bs)(S:Seen){l:List Bs}{i:Nat}{x:Bs}(h:l[i]?=some x):impsAt own S l i=if x=own\/x∈l.take i then some (10,none) else if S x=none then some (8,none) else impsAt own S l (i+1):=by
 obtain⟨a,e⟩:=List.getElem?_eq_some_iff.1 h
 unfold impsAt
 rw[List.drop_eq_getElem_cons a,e,Tp.imps,List.take_succ_eq_append_getElem a,List.reverse_append,e]
 simp
def upTo (S:Seen) (l:List Bs) (i:Nat):Seen:=fun k=>if k∈l.take i then S k else none
theorem upTo_succ {S:Seen}{l:List Bs}{i:Nat}{x:Bs}{c:List Sy}(h:l[i]?=some x)(f:S x=some c):upTo S l (i+1)=fun k=>if k=x then some c else upTo S l i k:=by
 obtain⟨d,e⟩:=List.getElem?_eq_some_iff.1 h
 funext k
 unfold upTo
 rw[List.take_succ_eq_append_getElem d,e]
 by_cases a:k=x
 ·rw[if_pos (by simp[a]),if_pos a,a,f]
 ·rw[if_neg a]
  have:k∈l.take i++[x]↔k∈l.take i:=by simp[a]
  by_cases b:k∈l.take i
  ·rw[if_pos (this.2 b),if_pos b]
  ·rw[if_neg (fun q=>b (this.1 q)),if_neg b]
def thrownE (en:Nat):Ending:=.panicked [{ v:=.iface 44 (.int .i64 (en:Int)),recovered:=false }]
def ImpP (w:World) (own:Bs) (is:List Bs) (S:Seen) (e:Ending) (w':World):Prop:=Below w.heap.size w w'/\match Tp.imps own S [] is with
 |none=>∃ob n,e=.returned (.map (some ob))/\w.heap.size<=ob/\SeenM w' ob n (fun k=>if k∈is then S k else none)
 |some er=>e=thrownE er.1
def AskI (w:World) (inn:Nat) (ia:Option Addr) (is:List Bs):Prop :=
 ∀i,i<inn->∃(g:Nat) (x:Bs),ia=some ⟨g,0,none⟩/\g<w.heap.size/\w.cell? ⟨g,i,none⟩=some (.string (bs x))/\x.length<=1000000/\is[i]?=some x
theorem beq_bs (a b:Bs):((bs a).toList==(bs b).toList)=decide (a=b):=by rw[Bool.eq_iff_iff,decide_eq_true_iff,beq_iff_eq,zj,zj]
theorem xS {w:World}{nm:Bs}{a gn pn E H G J D:Nat}{u F I C:Option Addr}{is:List Bs}{S:Seen}{v:Value}(hI:AskI w a u is)(hl:is.length=a)(c8:a<=1000)(Q:SeenV w v S) :
  Calls Tryz.prog 79 #[.agg #[.string (bs nm),.slice u a H,.slice F gn G,.slice I pn J,.slice C E D],v] w (ImpP w nm is S):=by
 obtain⟨c,s⟩:∃c,c=w.alloc (.cells #[.string (bs nm),.slice u a H,.slice F gn G,.slice I pn J,.slice C E D] 36):=⟨_,rfl⟩
 have T:c.heap[w.heap.size]?=some (.cells #[.string (bs nm),.slice u a H,.slice F gn G,.slice I pn J,.slice C E D] 36 (0,0)):=by rw[s];exact zo _ _
 have X:c.heap.size=w.heap.size+1:=by rw[s];simp
 have N:Below w.heap.size w (c.alloc (.map #[] 0)):=by rw[s];exact(zb _ _).alloc (by simp) _
 have B:=MapV.made c
 rw[X]at B
 have a4:SeenM (c.alloc (.map #[] 0)) (w.heap.size+1) 0 (upTo S is 0):=⟨_,B,fun k=>by simp[upTo]⟩
 have K:(c.alloc (.map #[] 0)).heap[w.heap.size]?=some (.cells #[.string (bs nm),.slice u a H,.slice F gn G,.slice I pn J,.slice C E D] 36 (0,0)):=(Below.heap_alloc _ _ _ (by omega)).trans T
 obtain⟨k0,k1,k2,k3,k4⟩:=yd K
 have b8:=@run_makeMap Tryz.prog
 have HI:=zh hI
 have HL:=zh hl
 have HK:=zh K
 have b3:=zh a4
 have b0:=zh B.blk
 have L:=zh N
 have HS:Hid (SeenV (c.alloc (.map #[] 0)) v S):=Q.on N
 have b2:Hid (∀j,v=.map (some j)->j<w.heap.size):=by
  rcases Q with⟨rfl,_⟩|⟨j,n,rfl,q⟩
  ·intro j e;cases e
  ·intro d4 e;cases e;exact q.lt
 have c3:(a:Int)<=1000:=by omega
 clear hI hl K a4 B N Q k0 k2 k3 k4 T
 go_enter Tryz.func79,Tryz.ntmps79
 go_wp2_with fail
 rw[<-s]
 have c6:w.heap.size+2<=(c.alloc (.map #[] 0)).heap.size:=by simp;omega
 generalize c.alloc (.map #[] 0)=w0 at *
 clear s X c b8
 go_loopg [16] a (fun k vi wr=>∃i:Nat,i<=a/\k=a-i/\vi=.int .i64 (i:Int)/\Hid (SeenM wr (w.heap.size+1) i (upTo S is i))/\Hid (Ext (w.heap.size+1) w0 wr)/\Hid (Tp.imps nm S [] is=impsAt nm S is i/\∀k∈is.take i,S k≠none))
 case atStart=>exact⟨0,by omega,by omega,rfl,b3,Ext.refl _ _,(uZ _ _ _).symm,by simp⟩
 case round =>
  obtain⟨i,c7,h,rfl,A,f,d⟩:=hrel
  have c9:=f.out.size
  by_cases b7:i<a
  ·have a6:(i:Int)<(a:Int):=by omega
   obtain⟨g,x,b6,b5,c0,P,R⟩:=HI.out i b7
   subst b6
   have d0:wr.cell? ⟨g,i,none⟩=some (.string (bs x)):=f.out.cell ((L.out.cell (p:=⟨g,i,none⟩) b5).trans c0) (by simp;omega)
   have d3:wr.cell? ⟨w.heap.size,0,none⟩=some (.string (bs nm)):=f.out.cell (yd HK.out).1 (by simp)
   have c4:g<wr.heap.size:=by omega
   have c5:w.heap.size<wr.heap.size:=by omega
   have HX:=zh R
   have z:=zh (qd nm S R)
   obtain⟨v1,o,⟨a1,n1,d1,c1⟩,_,_⟩:=A.out.look x P true
   subst c1
   have r:Hid (Below w.heap.size w wr):=L.out.trans (zT f.out (by omega) (by omega))
   have a3:(upTo S is i x).isSome=decide (x∈is.take i):=by
    unfold upTo
    by_cases b:x∈is.take i
    ·rw[if_pos b,decide_eq_true b]
     exact Option.isSome_iff_ne_none.2 (d.out.2 x b)
    ·rw[if_neg b,decide_eq_false b];rfl
   rw[a3]at o
   clear c0 R a3
   by_cases b:x∈is.take i
   ·rw[decide_eq_true b]at o
    simp only[if_true]at o
    have t:Hid (Tp.imps nm S [] is=some (10,none)):=by unfold Hid;rw[d.out.1,z.out,if_pos (Or.inr b)]
    clear b
    go_wp2_with fail
    refine⟨rfl,r.out,?_⟩
    rw[t.out]
    rfl
   ·rw[decide_eq_false b]at o
    simp only[if_true]at o
    have U:=beq_bs x nm
    by_cases m:x=nm
    ·rw[decide_eq_true m]at U
     have t:Hid (Tp.imps nm S [] is=some (10,none)):=by unfold Hid;rw[d.out.1,z.out,if_pos (Or.inl m)]
     clear b m
     go_wp2_with fail
     refine⟨rfl,r.out,?_⟩
     rw[t.out]
     rfl
    ·rw[decide_eq_false m]at U
     have b1:Hid (SeenV wr v S):=by
      have b9:=HS.out
      rcases b9 with q|⟨j,n,h1,h2⟩
      ·exact Or.inl q
      ·exact Or.inr ⟨j,n,h1,h2.ext f.out b0.out (by have:=b2.out j h1;omega)⟩
     obtain⟨v2,y,⟨a2,n2,d2,c2⟩,W,V⟩:=b1.out.look x P true
     subst c2
     have a0:=zh W
     have Y:=zh V
     have Z:Hid (¬(x=nm\/x∈is.take i)):=fun e=>e.elim m b
     clear W V b m
     cases l:S x with
     |none =>
      rw[l]at y
      simp only[Option.isSome_none,if_true]at y
      have t:Hid (Tp.imps nm S [] is=some (8,none)):=by unfold Hid;rw[d.out.1,z.out,if_neg Z.out,if_pos l]
      clear l
      go_wp2_with fail
      refine⟨rfl,r.out,?_⟩
      rw[t.out]
      rfl
     |some ll =>
      rw[l]at y a0 Y
      simp only[Option.isSome_some,if_true]at y
      have M:=zh l
      clear l
      go_wp2_with (at_mapUpdate;refine kF _ rfl _ _ _ rfl (w.heap.size+1) i (upTo S is i) A.out (by omega) x P (.slice a2 n2 d2) ll a0.out Y.out rfl rfl rfl ?_;intro w3 q1 q2 q3)
      have b4:Hid (SeenM w3 (w.heap.size+1) (i+1) (upTo S is (i+1))):=by unfold Hid;rw[upTo_succ HX.out M.out];exact q1
      have a7:=zh (f.out.trans q2)
      have a5:Hid (Tp.imps nm S [] is=impsAt nm S is (i+1)/\∀k∈is.take (i+1),S k≠none):=by
       refine⟨by rw[d.out.1,z.out,if_neg Z.out,if_neg (by rw[M.out];simp)],fun k h=>?_⟩
       obtain⟨hi,e⟩:=List.getElem?_eq_some_iff.1 HX.out
       rw[List.take_succ_eq_append_getElem hi,e,List.mem_append]at h
       rcases h with h|h
       ·exact d.out.2 k h
       ·rw[List.mem_singleton.1 h,M.out];simp
      clear q1 q2 q3
      go_wp2_with fail
      go_roundg (a-(i+1))
      case measure=>omega
      case rel=>exact⟨i+1,by omega,rfl,by go_num,b4,a7,a5⟩
  ·have a6:¬(i:Int)<(a:Int):=by omega
   have O:i=is.length:=by have:=HL.out;omega
   have a8:Hid (Tp.imps nm S [] is=none):=by unfold Hid;rw[d.out.1,O,impsAt_all]
   have a9:Hid (SeenM wr (w.heap.size+1) i (fun k=>if k∈is then S k else none)):=by
    have:=A.out
    rw[O]at this ⊢
    unfold upTo at this
    rw[List.take_length]at this
    exact this
   have r:Hid (Below w.heap.size w wr):=L.out.trans (zT f.out (by omega) (by omega))
   clear A f d O
   go_wp2_with fail
   go_ret
   refine⟨r.out,?_⟩
   rw[a8.out]
   exact⟨_,_,rfl,by omega,a9.out⟩
theorem fidx_of (l:List Sy)(n:Bs):(∃(k:Nat) (a:k<l.length),fidx l n=(k:Int)/\Tp.findS l n=some l[k])\/fidx l n=-1/\Tp.findS l n=none:=by
 unfold fidx Tp.findS
 cases h:l.findIdx? (fun s=>s.1==n) with
 |some k =>
  left
  have b:=h
  rw[List.findIdx?_eq_some_iff_getElem]at b
  obtain⟨a,c,d⟩:=b
  refine⟨k,a,rfl,?_⟩
  rw[List.find?_eq_some_iff_getElem]
  exact⟨by simpa using c,k,a,rfl,fun j e=>by simpa using d j e⟩
 |none =>
  right
  refine⟨rfl,?_⟩
  rw[List.find?_eq_none]
  rw[List.findIdx?_eq_none_iff]at h
  intro x f
  simpa using h x f
def lookRes (r:Except Nat (Nat×Int)):Value:=match r with
 | .ok x=>.tuple #[.agg #[.int .i64 (x.1:Int),.int .i64 x.2],.int .i64 0]
 | .error e=>.tuple #[.agg #[.int .i64 0,.int .i64 0],.int .i64 (e:Int)]
def seenRes (o:Option (List Sy)) (nm:Bs):Except Nat (Nat×Int):=match o with
 |none=>.error 5
 |some l=>match Tp.findS l nm with
  |some s=>.ok s.2
  |none=>.error 7
theorem xU {w:World}{ob n:Nat}{S:Seen}(h:SeenM w ob n S)(md nm:Bs)(V:md.length<=1000000) :
  Calls Tryz.prog 115 #[.map (some ob),.string (bs md),.string (bs nm)] w fun e w'=>e=.returned (lookRes (seenRes (S md) nm))/\Below w.heap.size w w':=by
 have G:∀I,Below w.heap.size w (w.alloc I):=fun I=>zb _ _
 obtain⟨d,f⟩:∃d,d=w.alloc (.cells #[.int .i64 0,.int .i64 0] 196):=⟨_,rfl⟩
 have B:Below w.heap.size w d:=by rw[f];exact G _
 have j:d.heap[w.heap.size]?=some (.cells #[.int .i64 0,.int .i64 0] 196 (0,0)):=by rw[f];exact zo _ _
 have u:w.heap.size<d.heap.size:=by rw[f];simp
 obtain⟨v1,r,⟨a1,n1,d1,P⟩,i,t⟩:=(h.on B).look md V true
 subst P
 have D:d.cell? ⟨w.heap.size,0,none⟩=some (.int .i64 0):=(za j).trans rfl
 have c1:d.cell? ⟨w.heap.size,1,none⟩=some (.int .i64 0):=(za j).trans rfl
 have L:d.frozen? ⟨w.heap.size,0,none⟩=false:=zi j
 have M:d.frozen? ⟨w.heap.size,1,none⟩=false:=zi j
 have z:=zh B
 have E:=zh j
 clear G h B j
 cases x:S md with
 |none =>
  rw[x]at r
  simp only[Option.isSome_none,if_true]at r
  clear x i t
  go_enter Tryz.func115,Tryz.ntmps115
  go_upto_region 1 with fail
  rw[<-f]
  clear f
  go_wp2_with fail
  exact bodyPost_ret (v:=.tuple #[.agg #[.int .i64 0,.int .i64 0],.int .i64 5]) (by simp[results,Tryz.results115,go_sem,D,c1]) rfl ⟨rfl,z.out.trans (zq (zq (Below.refl _ _) zn 0 _) zn 1 _)⟩
 |some l =>
  rw[x]at r i t
  simp only[Option.isSome_some,if_true,Option.getD_some]at r i t
  clear x
  have H:=uj i t nm
  have F:=zh i
  have s:=zh H
  obtain⟨a9,c9,Q⟩:=i.len
  cases Q
  clear i H
  rcases fidx_of l nm with⟨k,U,o,q⟩|⟨o,q⟩
  ·rw[o]at s
   have m:Hid (lookRes (seenRes (some l) nm)=.tuple #[.agg #[.int .i64 (l[k].2.1:Int),.int .i64 l[k].2.2],.int .i64 0]):=by unfold Hid seenRes;simp only;rw[q];rfl
   obtain⟨g,N,_,C,y⟩:=F.out.cell k U
   subst N
   have J:d.cell? ⟨g,k*3+1,none⟩=some (.int .i64 (l[k].2.1:Int)):=y 1 (by omega)
   have K:d.cell? ⟨g,k*3+2,none⟩=some (.int .i64 l[k].2.2):=y 2 (by omega)
   have R:=zh J
   have T:=zh K
   have Z:(k:Int)<(l.length:Int):=by omega
   have Y:(l.length:Int)<=1000:=by omega
   clear y o q J K
   rw[m.out]
   clear m
   generalize l[k].2.1=x1 at *
   generalize l[k].2.2=x2 at *
   generalize l.length=ln at *
   go_enter Tryz.func115,Tryz.ntmps115
   go_upto_region 1 with fail
   rw[<-f]
   clear f
   go_wp2_with fail
   refine s.out.mono ?_
   rintro e a⟨rfl,b⟩
   have c:=(b.block _ u).trans E.out
   have r1:a.cell? ⟨g,k*3+1,none⟩=some (.int .i64 (x1:Int)):=(b.cell (p:=⟨g,_,none⟩) C).trans R.out
   have r2:a.cell? ⟨g,k*3+2,none⟩=some (.int .i64 x2):=(b.cell (p:=⟨g,_,none⟩) C).trans T.out
   have X:g<a.heap.size:=Nat.lt_of_lt_of_le C b.size
   have O:w.heap.size<a.heap.size:=Nat.lt_of_lt_of_le u b.size
   have s0:a.cell? ⟨w.heap.size,0,none⟩=some (.int .i64 0):=(za c).trans rfl
   have s1:a.cell? ⟨w.heap.size,1,none⟩=some (.int .i64 0):=(za c).trans rfl
   have W:a.frozen? ⟨w.heap.size,0,none⟩=false:=zi c
   have t1:a.frozen? ⟨w.heap.size,1,none⟩=false:=zi c
   have A:Hid (Below w.heap.size w a):=z.out.trans (b.mono (by omega))
   clear c b D c1 L M
   go_wp2_with fail
   go_region
   go_wp2_with fail
   exact bodyPost_ret (v:=.tuple #[.agg #[.int .i64 (x1:Int),.int .i64 x2],.int .i64 0]) (by simp[results,Tryz.results115,go_sem,s0,s1]) rfl ⟨rfl,A.out.trans (zq (zq ((Below.refl _ _).drew) zn 0 _) zn 1 _)⟩
  ·rw[o]at s
   have m:Hid (lookRes (seenRes (some l) nm)=.tuple #[.agg #[.int .i64 0,.int .i64 0],.int .i64 7]):=by unfold Hid seenRes;simp only;rw[q];rfl
   clear o q F
   rw[m.out]
   clear m
   generalize l.length=ln at *
   go_enter Tryz.func115,Tryz.ntmps115
   go_upto_region 1 with fail
   rw[<-f]
   clear f
   go_wp2_with fail
   refine s.out.mono ?_
   rintro e a⟨rfl,b⟩
   have c:=(b.block _ u).trans E.out
   have O:w.heap.size<a.heap.size:=Nat.lt_of_lt_of_le u b.size
   have s0:a.cell? ⟨w.heap.size,0,none⟩=some (.int .i64 0):=(za c).trans rfl
   have s1:a.cell? ⟨w.heap.size,1,none⟩=some (.int .i64 0):=(za c).trans rfl
   have W:a.frozen? ⟨w.heap.size,0,none⟩=false:=zi c
   have t1:a.frozen? ⟨w.heap.size,1,none⟩=false:=zi c
   have A:Hid (Below w.heap.size w a):=z.out.trans (b.mono (by omega))
   clear c b D c1 L M
   go_wp2_with fail
   exact bodyPost_ret (v:=.tuple #[.agg #[.int .i64 0,.int .i64 0],.int .i64 7]) (by simp[results,Tryz.results115,go_sem,s0,s1]) rfl ⟨rfl,A.out.trans (zq (zq (Below.refl _ _) zn 0 _) zn 1 _)⟩
end Go.Proofs.YtibncofnnlbmcaaGreatDoor
