import Derived.Test.YtibncofnnlbmcaaGreatDoorLMa
set_option maxRecDepth 100000
set_option maxHeartbeats 4000000
namespace Go.Proofs.YtibncofnnlbmcaaGreatDoor
open Go.RowKit Go.Sort
open Tp (Sy)
theorem Tryz.infoSym:(Tryz.prog.info? 205).map (fun i=>(i.zero,i.size,i.bytes))=some (some (.agg #[.string ⟨#[]⟩,.int .i64 0,.int .i64 0]),3,32):=by kernel_rfl
def AskOG (w:World) (gn:Nat) (ga:Option Addr) (xs:Nat->List Sy):Prop :=
 ∀i,i<gn->∃(g:Nat) (x0:List UInt8) (x1 x2:Nat) (x3:Bool),ga=some ⟨g,0,none⟩/\g<w.heap.size/\w.cell? ⟨g,i*4,none⟩=some (.string (bs x0))/\w.cell? ⟨g,i*4+1,none⟩=some (.int .i64 (x1:Int))/\w.cell? ⟨g,i*4+2,none⟩=some (.int .i64 (x2:Int))/\w.cell? ⟨g,i*4+3,none⟩=some (.bool x3) /\
  xs (i+1)=xs i++(if x3 then [(x0,x2,-1)] else [])
def AskOP (w:World) (pn:Nat) (pa:Option Addr) (xs:Nat->List Sy):Prop :=
 ∀i,i<pn->∃(g:Nat) (x0:List UInt8) (x1:Nat) (x2:Bool) (y3 y4 y5:Option Addr) (n3 n4 n5 c3 c4 c5:Nat),pa=some ⟨g,0,none⟩/\g<w.heap.size/\w.cell? ⟨g,i*6,none⟩=some (.string (bs x0))/\w.cell? ⟨g,i*6+1,none⟩=some (.int .i64 (x1:Int))/\w.cell? ⟨g,i*6+2,none⟩=some (.bool x2)/\w.cell? ⟨g,i*6+3,none⟩=some (.slice y3 n3 c3)/\w.cell? ⟨g,i*6+4,none⟩=some (.slice y4 n4 c4)/\w.cell? ⟨g,i*6+5,none⟩=some (.slice y5 n5 c5) /\
  xs (i+1)=xs i++(if x2 then [(x0,0,(n3:Int))] else [])
def SL (w:World) (B:Nat) (v:Value) (l:List Sy):Prop:=v=.slice none 0 0/\l=[]\/∃g cap,v=.slice (some ⟨g,0,none⟩) l.length cap/\B<=g/\SyRow w g cap l
theorem own_syrow {w:World}{a n:Nat}{v:Value}{l:List Sy}(h:w.ownsRow a 205 3 v n (sycs l)):n=l.length/\SL w a v l:=by
 have b:n=l.length:=by have:=h.1;rw[sycs_len]at this;omega
 refine⟨b,?_⟩
 rcases h.2 with⟨rfl,c⟩|⟨g,cap,cur,rfl,q1,q2,q3,q4,q5,q6⟩
 ·exact Or.inl ⟨rfl,List.eq_nil_of_length_eq_zero (by omega)⟩
 ·subst b
  exact Or.inr ⟨g,cap,rfl,q1,⟨⟨cur,q2,q5,q6⟩,q3,q4⟩⟩
theorem newsSy (w:World)(o:Obj)(b a c:Value)(t:TypeId):∀(j:Nat) (u:Value),([b,a,c]:List Value)[j]?=some u->((w.alloc o).alloc (.cells #[b,a,c] t)).cell? ((⟨w.heap.size+1,0,none⟩:Addr).add j)=some u:=by
 intro j u d
 rw[Addr.add_lit,za (yj _ _ _),Nat.zero_add]
 simpa using d
theorem of_walk {w:World}{nm:List UInt8}{x gn pn B z A s D:Nat}{y t l C:Option Addr}{mg mp:Nat->List Sy}(a6:mg 0=[])(hG:AskOG w gn t mg)(a5:mp 0=mg gn)(hP:AskOP w pn l mp)(a7:∀i,(mg i).length<=1000)(b2:∀i,(mp i).length<=1000)(a0:(mp pn).length<=20)(e9:gn<=1000000000)(f4:pn<=1000000000) :
  Calls Tryz.prog 84 #[.agg #[.string (bs nm),.slice y x z,.slice t gn A,.slice l pn s,.slice C B D]] w fun e w'=>∃v,e=.returned v/\Below w.heap.size w w'/\SL w' w.heap.size v (srt (mp pn)):=by
 obtain⟨i3,b4,a2,a3,a4⟩:=info_parts Tryz.infoSym
 have O:(w.alloc (.cells #[.string (bs nm),.slice y x z,.slice t gn A,.slice l pn s,.slice C B D] 36)).heap[w.heap.size]?=some (.cells #[.string (bs nm),.slice y x z,.slice t gn A,.slice l pn s,.slice C B D] 36 (0,0)):=zo _ _
 obtain⟨k0,k1,k2,T,k4⟩:=ym O
 have b0:=zh a6
 have HG:=zh hG
 have Q:=zh a5
 have U:=zh hP
 have e0:=zh a0
 have d6:=zh a7
 have d1:=zh b2
 have HK:=zh O
 have e7:(gn:Int)<=1000000000:=by omega
 have e6:(pn:Int)<=1000000000:=by omega
 clear a6 hG a5 hP a0 a7 b2 O k0 k1 T k4
 go_enter Tryz.func84,Tryz.ntmps84
 go_wp2_with fail
 go_loopg [3,11] gn (fun k v V wr=>∃i:Nat,i<=gn/\k=gn-i/\V=.int .i64 (i:Int)/\Hid (wr.ownsRow (w.heap.size+1) 205 3 v (mg i).length (sycs (mg i)))/\Hid (Below (w.heap.size+1) (w.alloc (.cells #[.string (bs nm),.slice y x z,.slice t gn A,.slice l pn s,.slice C B D] 36)) wr))
 case atStart=>exact⟨0,by omega,by omega,rfl,by unfold Hid;rw[b0.out];exact World.ownsRow_nil _ _ _ _,Below.refl _ _⟩
 case round =>
  obtain⟨i,d7,r,rfl,m,b⟩:=hrel
  have a:=m.out
  have L:=d6.out i
  have M:=b.out.size
  have e5:(w.alloc (.cells #[.string (bs nm),.slice y x z,.slice t gn A,.slice l pn s,.slice C B D] 36)).heap.size=w.heap.size+1:=by simp
  by_cases d0:i<gn
  ·have b6:(i:Int)<(gn:Int):=by omega
   obtain⟨g,f,x1,x2,x3,d9,c7,H,G,c2,c3,I⟩:=HG.out i d0
   subst d9
   have c:∀(o:Nat) (u:Value),w.cell? ⟨g,o,none⟩=some u->wr.cell? ⟨g,o,none⟩=some u:=fun o u h=>(b.out.cell (p:=⟨g,o,none⟩) (by simp;omega)).trans (yd h _)
   have d2:=c _ _ H
   have d8:=c _ _ G
   have e1:=c _ _ c2
   have e4:=c _ _ c3
   have b7:g<wr.heap.size:=by omega
   obtain⟨Z,c1,X⟩:=zw a
   subst X
   clear H G c2 c3 c m
   cases x3 with
   |true =>
    have n:=(a.alloc (.cells #[.string (bs f),.int .i64 (x1:Int),.int .i64 (x2:Int),.bool true] 61)).alloc (.cells #[.string (bs f),.int .i64 (x2:Int),.int .i64 (-1)] 205)
    go_wp2_with (at_builtin;refine zG _ rfl _ _ 149 rfl (w.heap.size+1) 205 i3 (.agg #[.string ⟨#[]⟩,.int .i64 0,.int .i64 0]) 3 32 Tryz.underlying149 b4 a2 a3 a4 rfl (by decide) _ _ _ rfl n ⟨wr.heap.size+1,0,none⟩ 1 1 [.string (bs f),.int .i64 (x2:Int),.int .i64 (-1)] rfl rfl (newsSy wr _ _ _ _ _) (by intro u K;simp at K;rcases K with rfl|rfl|rfl<;>rfl) (by unfold maxLen;omega) (by omega) (by simp;omega) ?_)
    intro Y W F E _
    have d:=zh ((((b.out.alloc (by omega) _).alloc (by simp;omega) _)).grown E (by simp;omega) (fun k r=>(n.lt k r).1))
    have q:Hid (W.ownsRow (w.heap.size+1) 205 3 Y (mg (i+1)).length (sycs (mg (i+1)))):=by
     unfold Hid
     rw[show mg (i+1)=mg i++[(f,x2,(-1))] by simpa using I,sycs_app,List.length_append]
     exact F
    clear F E n a
    go_wp2_with fail
    go_roundg (gn-(i+1))
    case measure=>omega
    case rel=>exact⟨i+1,by omega,rfl,by go_num,q,d⟩
   |false =>
    have d:∀ob,Below (w.heap.size+1) _ (wr.alloc ob):=fun ob=>b.out.alloc (by omega) _
    have q:∀ob,Hid ((wr.alloc ob).ownsRow (w.heap.size+1) 205 3 (.slice Z (mg i).length c1) (mg (i+1)).length (sycs (mg (i+1)))):=by
     intro ob
     unfold Hid
     rw[show mg (i+1)=mg i by simpa using I]
     exact a.alloc ob
    have P:=zh d
    clear a d
    go_wp2_with fail
    go_roundg (gn-(i+1))
    case measure=>omega
    case rel=>exact⟨i+1,by omega,rfl,by go_num,q _,P.out _⟩
  ·have b6:¬(i:Int)<(gn:Int):=by omega
   have b3:i=gn:=by omega
   have b1:Hid (wr.ownsRow (w.heap.size+1) 205 3 u3 (mp 0).length (sycs (mp 0))):=by unfold Hid;rw[Q.out,<-b3];exact a
   have a9:=b
   have T:wr.cell? ⟨w.heap.size,3,none⟩=some (.slice l pn s):=(b.out.cell (p:=⟨w.heap.size,3,none⟩) (by simp)).trans (ym HK.out).2.2.2.1
   have c6:w.heap.size<wr.heap.size:=by omega
   clear m a b HG b0 b3 d7 r L M k2
   go_wp2_with fail
   go_loopg [3,29] pn (fun k v V wr=>∃i:Nat,i<=pn/\k=pn-i/\V=.int .i64 (i:Int)/\Hid (wr.ownsRow (w.heap.size+1) 205 3 v (mp i).length (sycs (mp i)))/\Hid (Below (w.heap.size+1) (w.alloc (.cells #[.string (bs nm),.slice y x z,.slice t gn A,.slice l pn s,.slice C B D] 36)) wr))
   case atStart=>exact⟨0,by omega,by omega,rfl,b1,a9⟩
   case round =>
    obtain⟨j,f2,f1,rfl,m,b⟩:=hrel
    clear b1 a9 T c6
    have a:=m.out
    have L:=d1.out j
    have M:=b.out.size
    by_cases b8:j<pn
    ·have b5:(j:Int)<(pn:Int):=by omega
     obtain⟨g,f,x1,x2,y3,y4,y5,N,n4,n5,d3,d4,d5,e3,c7,H,G,c2,c3,c4,c5,I⟩:=U.out j b8
     subst e3
     have c:∀(o:Nat) (u:Value),w.cell? ⟨g,o,none⟩=some u->wr.cell? ⟨g,o,none⟩=some u:=fun o u h=>(b.out.cell (p:=⟨g,o,none⟩) (by simp;omega)).trans (yd h _)
     have d2:=c _ _ H
     have d8:=c _ _ G
     have e1:=c _ _ c2
     have e4:=c _ _ c3
     have e8:=c _ _ c4
     have f3:=c _ _ c5
     have b7:g<wr.heap.size:=by omega
     obtain⟨Z,c1,X⟩:=zw a
     subst X
     clear H G c2 c3 c4 c5 c m
     cases x2 with
     |true =>
      have n:=(a.alloc (.cells #[.string (bs f),.int .i64 (x1:Int),.bool true,.slice y3 N d3,.slice y4 n4 d4,.slice y5 n5 d5] 65)).alloc (.cells #[.string (bs f),.int .i64 0,.int .i64 (N:Int)] 205)
      go_wp2_with (at_builtin;refine zG _ rfl _ _ 149 rfl (w.heap.size+1) 205 i3 (.agg #[.string ⟨#[]⟩,.int .i64 0,.int .i64 0]) 3 32 Tryz.underlying149 b4 a2 a3 a4 rfl (by decide) _ _ _ rfl n ⟨wr.heap.size+1,0,none⟩ 1 1 [.string (bs f),.int .i64 0,.int .i64 (N:Int)] rfl rfl (newsSy wr _ _ _ _ _) (by intro u K;simp at K;rcases K with rfl|rfl|rfl<;>rfl) (by unfold maxLen;omega) (by omega) (by simp;omega) ?_)
      intro Y W F E _
      have d:=zh ((((b.out.alloc (by omega) _).alloc (by simp;omega) _)).grown E (by simp;omega) (fun k r=>(n.lt k r).1))
      have q:Hid (W.ownsRow (w.heap.size+1) 205 3 Y (mp (j+1)).length (sycs (mp (j+1)))):=by
       unfold Hid
       rw[show mp (j+1)=mp j++[(f,0,(N:Int))] by simpa using I,sycs_app,List.length_append]
       exact F
      clear F E n a
      go_wp2_with fail
      go_roundg (pn-(j+1))
      case measure=>omega
      case rel=>exact⟨j+1,by omega,rfl,by go_num,q,d⟩
     |false =>
      have d:∀ob,Below (w.heap.size+1) _ (wr.alloc ob):=fun ob=>b.out.alloc (by omega) _
      have q:∀ob,Hid ((wr.alloc ob).ownsRow (w.heap.size+1) 205 3 (.slice Z (mp j).length c1) (mp (j+1)).length (sycs (mp (j+1)))):=by
       intro ob
       unfold Hid
       rw[show mp (j+1)=mp j by simpa using I]
       exact a.alloc ob
      have P:=zh d
      clear a d
      go_wp2_with fail
      go_roundg (pn-(j+1))
      case measure=>omega
      case rel=>exact⟨j+1,by omega,rfl,by go_num,q _,P.out _⟩
    ·have b5:¬(j:Int)<(pn:Int):=by omega
     have S:j=pn:=by omega
     rw[S]at a
     obtain⟨f0,e2⟩:=own_syrow a
     have R:Hid (Below w.heap.size w wr):=(((Below.refl w.heap.size w).alloc zn _).trans (b.out.mono (by omega)))
     rcases e2 with⟨rfl,b9⟩|⟨g,cap,rfl,hge,hrow⟩
     ·have J:=zh (sort_nil wr)
      have c8:srt (mp pn)=[]:=List.eq_nil_of_length_eq_zero (by rw[kR,b9];rfl)
      unfold fnCmp at J
      clear a m b U Q S L M
      go_wp2_with fail
      refine J.out.mono ?_
      rintro e w9⟨rfl,rfl⟩
      go_wp2_with fail
      go_ret
      exact⟨_,rfl,R.out,Or.inl ⟨rfl,c8⟩⟩
     ·have J:=zh (sort_post hrow e0.out)
      have a8:=zh hge
      unfold fnCmp at J
      have c9:(srt (mp pn)).length=(mp pn).length:=kR _
      generalize (mp pn).length=ln at *
      clear a m b U Q S L M hrow hge
      go_wp2_with fail
      refine J.out.mono ?_
      rintro e w9⟨rfl,h9,g9⟩
      have H9:=zh h9
      have G9:=zh g9
      clear h9 g9
      go_wp2_with fail
      go_ret
      refine⟨.slice (some ⟨g,0,none⟩) ln cap,rfl,R.out.trans ?_,Or.inr ⟨g,cap,by rw[c9],by have:=a8.out;omega,H9.out⟩⟩
      exact(Below.refl w.heap.size wr).grown G9.out (by have:=R.out.size;omega) (fun k r=>by cases r;have:=a8.out;omega)
end Go.Proofs.YtibncofnnlbmcaaGreatDoor
namespace Go.Proofs.YtibncofnnlbmcaaGreatDoor
open Go.RowKit Go.Sort
open Tp (Sy G Pr)
theorem vX {α β:Type}(p:α->Bool)(f:α->β)(l:List α)(i:Nat)(h:i<l.length):((l.take (i+1)).filter p).map f=((l.take i).filter p).map f++(if p l[i] then [f l[i]] else []):=by
 rw[List.take_succ_eq_append_getElem h,List.filter_append,List.map_append]
 congr 1
 by_cases a:p l[i]=true
 ·simp[a]
 ·simp[a]
theorem filt_len {α β:Type}(p:α->Bool)(f:α->β)(l:List α):((l.filter p).map f).length<=l.length:=by
 rw[List.length_map];exact List.length_filter_le _ _
def AllSmall (l:List Sy):Prop:=∀s∈l,s.2.1<100/\s.2.2<100/\-1<=s.2.2/\s.1.length<=100
theorem uD {m:Tp.M}(I:m.vars.length<=10)(L:m.procs.length<=10){w:World}{s B D u:Option Addr}{t r y z:Nat}(h:MB w w.heap.size m s B D u t r y z) :
  Calls Tryz.prog 84 #[.agg (mcells (bs m.name) (.slice s m.imports.length t) (.slice B m.vars.length r) (.slice D m.procs.length y) (.slice u m.body.length z))] w fun e w'=>∃v,e=.returned v/\Below w.heap.size w w'/\SL w' w.heap.size v (srt (Tp.symsOf m)):=by
 obtain⟨nm,is,a,ps,F⟩:=m
 obtain⟨K,A,C⟩:=h.pr
 have q:=h.gl
 simp only at q A C I L
 obtain⟨mg,f⟩:∃mg:Nat->List Sy,mg=fun i=>((a.take i).filter (·.seen)).map Tp.syG:=⟨_,rfl⟩
 obtain⟨mp,d⟩:∃mp:Nat->List Sy,mp=fun i=>mg a.length++((ps.take i).filter (·.seen)).map Tp.syP:=⟨_,rfl⟩
 have E:mp ps.length=Tp.symsOf ⟨nm,is,a,ps,F⟩:=by rw[d,f];simp[Tp.symsOf]
 have J:mg 0=[]:=by rw[f];simp
 have H:mp 0=mg a.length:=by rw[d];simp
 have x:∀i,(mg i).length<=10:=by
  intro i;rw[f];have:=filt_len (fun g:G=>g.seen) Tp.syG (a.take i);simp only[List.length_take]at this ⊢;omega
 have b2:∀i,(mp i).length<=20:=by
  intro i;rw[d];have:=filt_len (fun p:Pr=>p.seen) Tp.syP (ps.take i);have:=x a.length;simp only[List.length_take,List.length_append]at *;omega
 rw[<-E]
 refine of_walk (mg:=mg) (mp:=mp) (gn:=a.length) (pn:=ps.length) J ?_ H ?_ (fun i=>by have:=x i;omega) (fun i=>by have:=b2 i;omega) (b2 _) (by omega) (by omega)
 ·intro i c
  obtain⟨g,cap,k,U,o,l⟩:=yt q (by omega)
  cases k
  have b:=fun j (n:j<4)=>(l (i*4+j) (by omega)).trans (xK a i c j n)
  refine⟨g,a[i].name,a[i].pos,a[i].len,a[i].seen,rfl,o,b 0 (by omega),b 1 (by omega),b 2 (by omega),b 3 (by omega),?_⟩
  rw[f]
  exact vX (fun g:G=>g.seen) Tp.syG a i c
 ·intro i c
  obtain⟨g,cap,k,U,o,l⟩:=yt C (by omega)
  cases k
  obtain⟨pv,vv,Y,X,N,T,Q,Z,P⟩:=jk ps K A i c
  have b:=fun j (n:j<6)=>(l (i*6+j) (by omega)).trans (N j n)
  obtain⟨R,c3,rfl⟩:=T.shape
  obtain⟨V,S,rfl⟩:=Q.shape
  obtain⟨W,O,rfl⟩:=P.shape
  refine⟨g,ps[i].name,ps[i].pos,ps[i].seen,R,V,W,ps[i].params.length,ps[i].vars.length,ps[i].body.length,c3,S,O,rfl,o,b 0 (by omega),b 1 (by omega),b 2 (by omega),b 3 (by omega),b 4 (by omega),b 5 (by omega),?_⟩
  rw[d]
  simp only[List.append_assoc]
  congr 1
  exact vX (fun p:Pr=>p.seen) Tp.syP ps i c
theorem SL.len {w:World}{B:Nat}{v:Value}{l:List Sy}(h:SL w B v l):∃a c,v=.slice a l.length c:=by
 rcases h with⟨rfl,rfl⟩|⟨g,cap,rfl,_⟩
 ·exact⟨none,0,rfl⟩
 ·exact⟨_,_,rfl⟩
theorem SL.cell {w:World}{B:Nat}{a:Option Addr}{n c:Nat}{l:List Sy}(h:SL w B (.slice a n c) l)(i:Nat)(d:i<l.length):∃g,a=some ⟨g,0,none⟩/\B<=g/\g<w.heap.size/\∀j,j<3->w.cell? ⟨g,i*3+j,none⟩=(encSy l[i])[j]?:=by
 rcases h with⟨_,rfl⟩|⟨g,cap,q1,q2,q3⟩
 ·simp at d
 ·cases q1
  obtain⟨m,e,o,f⟩:=q3.b
  refine⟨g,rfl,q2,zf e,fun j k=>?_⟩
  rw[za e,<-Array.getElem?_toList,<-sycs_get l i d j k,<-f,List.getElem?_take_of_lt (by omega)]
theorem SL.on {w w':World}{B:Nat}{v:Value}{l:List Sy}(h:SL w B v l)(k:Below w.heap.size w w'):SL w' B v l:=by
 rcases h with q|⟨g,cap,e,f,a⟩
 ·exact Or.inl q
 ·obtain⟨d,c,i,j⟩:=a.b
  exact Or.inr ⟨g,cap,e,f,⟨⟨d,(k.block g (zf c)).trans c,i,j⟩,a.n,a.m⟩⟩
end Go.Proofs.YtibncofnnlbmcaaGreatDoor
namespace Go.Proofs.YtibncofnnlbmcaaGreatDoor
open Go.RowKit Go.Sort
open Tp (Sy)
theorem bs_inj {a b:List UInt8}(h:bs a=bs b):a=b:=by
 have:=congrArg (fun x:ByteArray=>x.data.toList) h
 simpa[bs] using this
theorem find1_post (s:Sy)(n:List UInt8)(W:World)(a:Nat)(b:W.cell? ⟨a,0,none⟩=some (.string (bs n))) :
  Calls Tryz.prog 156 #[.agg #[.string (bs s.1),.int .i64 (s.2.1:Int),.int .i64 s.2.2],.pointer (some ⟨a,0,none⟩)] W fun e w'=>e=.returned (.bool (decide (s.1=n)))/\Below W.heap.size W w':=by
 obtain⟨nm,x1,x2⟩:=s
 simp only
 have d:=World.block_lt_of_cell? _ _ b
 by_cases h:nm=n
 ·subst h
  go_enter Tryz.func156,Tryz.ntmps156
  go_wp2_with fail
  go_ret
  exact⟨by simp,zb _ _⟩
 ·have c:¬bs nm=bs n:=fun e=>h (bs_inj e)
  go_enter Tryz.func156,Tryz.ntmps156
  go_wp2_with fail
  go_ret
  exact⟨by simp[h,zj],zb _ _⟩
def fidx (l:List Sy) (n:List UInt8):Int:=match l.findIdx? (fun s=>s.1==n) with
 |some i=>(i:Int)
 |none=>-1
theorem fidx_at {l:List Sy}{n:List UInt8}{i:Nat}(a:i<l.length)(h:l[i].1=n)(c:∀k (hk:k<i),l[k].1≠n):fidx l n=(i:Int):=by
 unfold fidx
 have:l.findIdx? (fun s=>s.1==n)=some i:=by
  rw[List.findIdx?_eq_some_iff_getElem]
  exact⟨a,by simpa using h,fun j b=>by simpa using c j b⟩
 rw[this]
theorem fidx_no {l:List Sy}{n:List UInt8}(c:∀k (a:k<l.length),l[k].1≠n):fidx l n=-1:=by
 unfold fidx
 have:l.findIdx? (fun s=>s.1==n)=none:=by
  rw[List.findIdx?_eq_none_iff]
  intro x b
  obtain⟨k,a,rfl⟩:=List.getElem_of_mem b
  simpa using c k a
 rw[this]
theorem index_post {w:World}{B:Nat}{v:Value}{l:List Sy}(h:SL w B v l)(V:l.length<=1000)(n:List UInt8)(q:Nat)(f:w.cell? ⟨q,0,none⟩=some (.string (bs n))) :
  Calls Tryz.prog 155 #[v,.func (.func 156) #[] #[.pointer (some ⟨q,0,none⟩)]] w fun e w'=>e=.returned (.int .i64 (fidx l n))/\Below w.heap.size w w':=by
 obtain⟨a,c,rfl⟩:=h.len
 have G:(l.length:Int)<=1000:=by omega
 have C:=World.block_lt_of_cell? _ _ f
 have F:=zh h
 have P:=zh f
 obtain⟨d,r⟩:∃d,d=l.length:=⟨_,rfl⟩
 rw[<-r]at G ⊢
 have A:=zh r
 clear h r f
 go_enter Tryz.func155,Tryz.ntmps155
 go_wp2_with fail
 go_loopg [8] d (fun k N wr=>∃i:Nat,i<=d/\k=d-i/\N=.int .i64 (i:Int)/\Hid (∀k (b:k<l.length),k<i->l[k].1≠n)/\Hid (Below w.heap.size w wr))
 case atStart=>exact⟨0,by omega,by omega,rfl,fun k _ b=>by omega,Below.refl _ _⟩
 case round =>
  obtain⟨i,R,b,rfl,t,m⟩:=hrel
  by_cases K:i<d
  ·have D:(i:Int)<(d:Int):=by omega
   have x:i<l.length:=by have:=A.out;omega
   obtain⟨g,rfl,_,E,u⟩:=F.out.cell i x
   have f:=fun j (M:j<3)=>(m.out.cell (p:=⟨g,i*3+j,none⟩) E).trans (u j M)
   have T:wr.cell? ⟨g,i*3,none⟩=some (.string (bs l[i].1)):=f 0 (by omega)
   have S:wr.cell? ⟨g,i*3+1,none⟩=some (.int .i64 (l[i].2.1:Int)):=f 1 (by omega)
   have U:wr.cell? ⟨g,i*3+2,none⟩=some (.int .i64 l[i].2.2):=f 2 (by omega)
   have Q:g<wr.heap.size:=by have:=m.out.size;omega
   have O:=zh (find1_post l[i] n wr q ((m.out.cell (p:=⟨q,0,none⟩) C).trans P.out))
   have H:Hid (l[i].1=n->fidx l n=(i:Int)):=fun e=>fidx_at x e (fun k b=>t.out k (by omega) b)
   have I:Hid (¬l[i].1=n->∀k (b:k<l.length),k<i+1->l[k].1≠n):=by
    intro J k b K
    by_cases e:k=i
    ·subst e;exact J
    ·exact t.out k b (by omega)
   clear f u
   generalize l[i].1=x0 at *
   generalize l[i].2.1=x1 at *
   generalize l[i].2.2=x2 at *
   go_wp2_with fail
   refine O.out.mono ?_
   rintro e W⟨rfl,z⟩
   have y:=zh (m.out.trans (z.mono m.out.size))
   clear z
   by_cases o:x0=n
   ·rw[decide_eq_true o]
    have s:=H.out o
    go_wp2_with fail
    go_ret
    exact⟨by first|rfl|(rw[s];rfl),y.out⟩
   ·rw[decide_eq_false o]
    have L:=zh (I.out o)
    go_wp2_with fail
    go_roundg (d-(i+1))
    case measure=>omega
    case rel=>exact⟨i+1,by omega,rfl,by go_num,L,y⟩
  ·have D:¬(i:Int)<(d:Int):=by omega
   have s:fidx l n=-1:=fidx_no (fun k b=>t.out k b (by have:=A.out;omega))
   go_wp2_with fail
   go_ret
   exact⟨by first|rfl|(rw[s];rfl),m.out⟩
theorem vW {w:World}{B:Nat}{v:Value}{l:List Sy}(h:SL w B v l)(j:l.length<=1000)(n:List UInt8) :
  Calls Tryz.prog 127 #[v,.string (bs n)] w fun e w'=>e=.returned (.int .i64 (fidx l n))/\Below w.heap.size w w':=by
 have k:=zm
 have b:Below w.heap.size w (w.alloc (.cells #[.string (bs n)] 9)):=zb _ _
 have i:=zh (index_post (h.on b) j n w.heap.size (za (zo _ _)))
 have f:=zh b
 obtain⟨a,c,rfl⟩:=h.len
 clear h
 generalize l.length=ln at *
 go_enter Tryz.func127,Tryz.ntmps127
 go_wp2_with fail
 refine i.out.mono ?_
 rintro e m⟨rfl,d⟩
 have g:=zh (f.out.trans (d.mono (by simp)))
 clear d
 go_wp2_with fail
 go_ret
 exact⟨rfl,g.out⟩
end Go.Proofs.YtibncofnnlbmcaaGreatDoor
namespace Go.Proofs.YtibncofnnlbmcaaGreatDoor
open Go.RowKit Go.Maps
open Tp (Bs Th Sy Seen)
def SeenM (w:World) (sb n:Nat) (S:Seen):Prop:=∃f,MapV w sb n f/\∀k,match S k with
 |none=>f k=none
 |some l=>∃v,f k=some v/\SL w 0 v l/\l.length<=1000
theorem MapV.blk {w:World}{b n:Nat}{f:Bs->Option Value}(h:MapV w b n f):∃a c,w.heap[b]?=some (.map a c):=by
 obtain⟨D,⟨a,clock,d,_⟩,_⟩:=h.own
 exact⟨a,clock,d⟩
theorem SL.ext {w w':World}{B b:Nat}{v:Value}{l:List Sy}(h:SL w B v l)(k:Ext b w w')(s:∃f c,w.heap[b]?=some (.map f c)):SL w' B v l:=by
 rcases h with q|⟨g,cap,o,r,d⟩
 ·exact Or.inl q
 ·obtain⟨j,a,t,u⟩:=d.b
  obtain⟨f,c,p⟩:=s
  have i:g≠b:=fun e=>by rw[e,p]at a;cases a
  exact Or.inr ⟨g,cap,o,r,⟨⟨j,(k.block g (zf a) i).trans a,t,u⟩,d.n,d.m⟩⟩
theorem SL.shape {w:World}{B:Nat}{v:Value}{l:List Sy}(h:SL w B v l):∃a c,v=.slice a l.length c:=h.len
theorem SeenM.on {w w':World}{e n:Nat}{S:Seen}(h:SeenM w e n S)(k:Below w.heap.size w w'):SeenM w' e n S:=by
 obtain⟨f,d,i⟩:=h
 refine⟨f,d.on (k.block _ d.lt),fun q=>?_⟩
 have:=i q
 cases g:S q with
 |none=>rw[g]at this;exact this
 |some l=>rw[g]at this;obtain⟨v,a,b,c⟩:=this;exact⟨v,a,b.on k,c⟩
theorem SeenM.lt {w:World}{a n:Nat}{S:Seen}(h:SeenM w a n S):a<w.heap.size:=by
 obtain⟨f,b,_⟩:=h
 exact b.lt
theorem SeenM.ext {w w':World}{d n b:Nat}{S:Seen}(h:SeenM w d n S)(k:Ext b w w')(m:∃es c,w.heap[b]?=some (.map es c))(i:d≠b):SeenM w' d n S:=by
 obtain⟨f,g,j⟩:=h
 refine⟨f,g.on (k.block _ g.lt i),fun q=>?_⟩
 have:=j q
 cases e:S q with
 |none=>rw[e]at this;exact this
 |some l=>rw[e]at this;obtain⟨v,a,b,c⟩:=this;exact⟨v,a,b.ext k m,c⟩
def SeenV (w:World) (sv:Value) (S:Seen):Prop:=(sv=.map none/\∀k,S k=none)\/∃sb n,sv=.map (some sb)/\SeenM w sb n S
theorem SeenV.on {w w':World}{a:Value}{S:Seen}(h:SeenV w a S)(k:Below w.heap.size w w'):SeenV w' a S:=by
 rcases h with q|⟨d,n,c,b⟩
 ·exact Or.inl q
 ·exact Or.inr ⟨d,n,c,b.on k⟩
theorem SeenM.look {w:World}{i n:Nat}{S:Seen}(h:SeenM w i n S)(l:Bs)(k:l.length<=1000000)(c:Bool):∃v,(Instr.lookup 90 (.map (some i)) (.string (bs l)) c).run Tryz.prog w=.ok (if c then .tuple #[v,.bool (S l).isSome] else v) w/\(∃a n d,v=.slice a n d)/\SL w 0 v ((S l).getD [])/\((S l).getD []).length<=1000:=by
 obtain⟨f,m,j⟩:=h
 have e:=m.look (t:=90) Tryz.underlying90 (zeroSyms w) l k c
 have:=j l
 cases g:S l with
 |none =>
  rw[g]at this
  rw[this]at e
  exact⟨_,e,⟨none,0,0,rfl⟩,Or.inl ⟨rfl,rfl⟩,by simp⟩
 |some ll =>
  rw[g]at this
  obtain⟨v,a,b,d⟩:=this
  rw[a]at e
  obtain⟨p,c1,o⟩:=b.shape
  exact⟨_,e,⟨_,_,_,o⟩,b,d⟩
theorem SeenV.look {w:World}{b:Value}{S:Seen}(h:SeenV w b S)(l:Bs)(e:l.length<=1000000)(c:Bool):∃v,(Instr.lookup 90 b (.string (bs l)) c).run Tryz.prog w=.ok (if c then .tuple #[v,.bool (S l).isSome] else v) w/\(∃a n d,v=.slice a n d)/\SL w 0 v ((S l).getD [])/\((S l).getD []).length<=1000:=by
 rcases h with⟨rfl,g⟩|⟨sb,n,rfl,h1⟩
 ·have f:=ky w (t:=90) Tryz.underlying90 (zeroSyms w) l e c
  rw[g l]
  exact⟨_,f,⟨none,0,0,rfl⟩,Or.inl ⟨rfl,rfl⟩,by simp⟩
 ·exact h1.look l e c
theorem SeenM.store {w w':World}{d n:Nat}{S:Seen}{f:Bs->Option Value}(e:MapV w d n f)(h:∀k,match S k with
 |none=>f k=none
 |some l=>∃v,f k=some v/\SL w 0 v l/\l.length<=1000){x:Bs}{v:Value}{l:List Sy}(p:SL w 0 v l)(m:l.length<=1000)(o:MapV w' d (n+1) (updV f x v))(g:Ext d w w'):SeenM w' d (n+1) (fun k=>if k=x then some l else S k):=by
 refine⟨_,o,fun k=>?_⟩
 by_cases j:k=x
 ·simp only[if_pos j,updV]
  exact⟨v,rfl,p.ext g e.blk,m⟩
 ·simp only[if_neg j,updV]
  have:=h k
  cases i:S k with
  |none=>rw[i]at this;exact this
  |some ll=>rw[i]at this;obtain⟨u,a,b,c⟩:=this;exact⟨u,a,b.ext g e.blk,c⟩
theorem kC (w:World){ops:Array Oper}{rest:List Oper}{o:Oper}{a:Act}{Q:Exit->Act->World->Prop}
  (t:o.guard=none)(m x v:Operand)(h:o.op=Op.mapUpdate 90 m x v)
  (b n:Nat)(S:Seen)(g:SeenM w b n S)(A:n<1000000)(l:Bs)(z:l.length<=1000000)(val:Value)(c:List Sy)(i:SL w 0 val c)(j:c.length<=1000)(u:a.eval m=.map (some b))(y:a.eval x=.string (bs l))(B:a.eval v=val)
  (p:∀w',SeenM w' b (n+1) (fun k=>if k=l then some c else S k)->Ext b w w'->w'.heap.size=w.heap.size->wpList Tryz.prog ops Q rest (a.put o.dst undef) w') :
  wpList Tryz.prog ops Q (o :: rest) a w:=by
 obtain⟨f,e,r⟩:=g
 exact yf w t m x v _ h _ Tryz.underlying90 b n f e A l z val u y B (fun w' q d s=>p w' (SeenM.store e r i j q d) d s)
def impsAt (own:Bs) (S:Seen) (l:List Bs) (i:Nat):Tp.Ck:=Tp.imps own S (l.take i).reverse (l.drop i)
theorem uN (own:Bs)(S:Seen)(l:List Bs):impsAt own S l 0=Tp.imps own S [] l:=by simp[impsAt]
theorem impsAt_all (own:Bs)(S:Seen)(l:List Bs):impsAt own S l l.length=none:=by simp[impsAt,Tp.imps]
theorem uO (own:Bs)(S:Seen){l:List Bs}{i:Nat}{x:Bs}(h:l[i]?=some x):impsAt own S l i=if x=own\/x∈l.take i then some (10,none) else if S x=none then some (8,none) else impsAt own S l (i+1):=by
 obtain⟨a,e⟩:=List.getElem?_eq_some_iff.1 h
 unfold impsAt
 rw[List.drop_eq_getElem_cons a,e,Tp.imps,List.take_succ_eq_append_getElem a,List.reverse_append,e]
 simp
def upTo (S:Seen) (l:List Bs) (i:Nat):Seen:=fun k=>if k∈l.take i then S k else none
theorem upTo_succ {S:Seen}{l:List Bs}{i:Nat}{x:Bs}{c:List Sy}(h:l[i]?=some x)(f:S x=some c):upTo S l (i+1)=fun k=>if k=x then some c else upTo S l i k:=by
 obtain⟨d,e⟩:=List.getElem?_eq_some_iff.1 h
 funext k
 unfold upTo
 rw[List.take_succ_eq_append_getElem d,e]
 by_cases a:k=x
 ·rw[if_pos (by simp[a]),if_pos a,a,f]
 ·rw[if_neg a]
  have:k∈l.take i++[x]↔k∈l.take i:=by simp[a]
  by_cases b:k∈l.take i
  ·rw[if_pos (this.2 b),if_pos b]
  ·rw[if_neg (fun q=>b (this.1 q)),if_neg b]
def thrownE (en:Nat):Ending:=.panicked [{ v:=.iface 44 (.int .i64 (en:Int)),recovered:=false }]
def ImpP (w:World) (own:Bs) (is:List Bs) (S:Seen) (e:Ending) (w':World):Prop:=Below w.heap.size w w'/\match Tp.imps own S [] is with
 |none=>∃ob n,e=.returned (.map (some ob))/\w.heap.size<=ob/\SeenM w' ob n (fun k=>if k∈is then S k else none)
 |some er=>e=thrownE er.1
def AskI (w:World) (inn:Nat) (ia:Option Addr) (is:List Bs):Prop :=
 ∀i,i<inn->∃(g:Nat) (x:Bs),ia=some ⟨g,0,none⟩/\g<w.heap.size/\w.cell? ⟨g,i,none⟩=some (.string (bs x))/\x.length<=1000000/\is[i]?=some x
theorem beq_bs (a b:Bs):((bs a).toList==(bs b).toList)=decide (a=b):=by rw[Bool.eq_iff_iff,decide_eq_true_iff,beq_iff_eq,zj,zj]
theorem xJ {w:World}{nm:Bs}{a gn pn G D F E I:Nat}{t J C H:Option Addr}{is:List Bs}{S:Seen}{u:Value}(hI:AskI w a t is)(hl:is.length=a)(c8:a<=1000)(R:SeenV w u S) :
  Calls Tryz.prog 79 #[.agg #[.string (bs nm),.slice t a D,.slice J gn F,.slice C pn E,.slice H G I],u] w (ImpP w nm is S):=by
 obtain⟨c,s⟩:∃c,c=w.alloc (.cells #[.string (bs nm),.slice t a D,.slice J gn F,.slice C pn E,.slice H G I] 36):=⟨_,rfl⟩
 have T:c.heap[w.heap.size]?=some (.cells #[.string (bs nm),.slice t a D,.slice J gn F,.slice C pn E,.slice H G I] 36 (0,0)):=by rw[s];exact zo _ _
 have U:c.heap.size=w.heap.size+1:=by rw[s];simp
 have M:Below w.heap.size w (c.alloc (.map #[] 0)):=by rw[s];exact(zb _ _).alloc (by simp) _
 have z:=MapV.made c
 rw[U]at z
 have a0:SeenM (c.alloc (.map #[] 0)) (w.heap.size+1) 0 (upTo S is 0):=⟨_,z,fun k=>by simp[upTo]⟩
 have K:(c.alloc (.map #[] 0)).heap[w.heap.size]?=some (.cells #[.string (bs nm),.slice t a D,.slice J gn F,.slice C pn E,.slice H G I] 36 (0,0)):=(Below.heap_alloc _ _ _ (by omega)).trans T
 obtain⟨k0,k1,k2,k3,k4⟩:=zZ K
 have b9:=@run_makeMap Tryz.prog
 have HI:=zh hI
 have HL:=zh hl
 have HK:=zh K
 have b3:=zh a0
 have b5:=zh z.blk
 have L:=zh M
 have HS:Hid (SeenV (c.alloc (.map #[] 0)) u S):=R.on M
 have c2:Hid (∀h,u=.map (some h)->h<w.heap.size):=by
  rcases R with⟨rfl,_⟩|⟨h,n,rfl,q⟩
  ·intro h e;cases e
  ·intro c7 e;cases e;exact q.lt
 have c6:(a:Int)<=1000:=by omega
 clear hI hl K a0 z M R k0 k2 k3 k4 T
 go_enter Tryz.func79,Tryz.ntmps79
 go_wp2_with fail
 rw[<-s]
 have c4:w.heap.size+2<=(c.alloc (.map #[] 0)).heap.size:=by simp;omega
 generalize c.alloc (.map #[] 0)=w0 at *
 clear s U c b9
 go_loopg [16] a (fun k vi wr=>∃i:Nat,i<=a/\k=a-i/\vi=.int .i64 (i:Int)/\Hid (SeenM wr (w.heap.size+1) i (upTo S is i))/\Hid (Ext (w.heap.size+1) w0 wr)/\Hid (Tp.imps nm S [] is=impsAt nm S is i/\∀k∈is.take i,S k≠none))
 case atStart=>exact⟨0,by omega,by omega,rfl,b3,Ext.refl _ _,(uN _ _ _).symm,by simp⟩
 case round =>
  obtain⟨i,d0,j,rfl,B,f,d⟩:=hrel
  have d4:=f.out.size
  by_cases b2:i<a
  ·have a5:(i:Int)<(a:Int):=by omega
   obtain⟨g,x,b8,b0,c0,N,Q⟩:=HI.out i b2
   subst b8
   have c9:wr.cell? ⟨g,i,none⟩=some (.string (bs x)):=f.out.cell ((L.out.cell (p:=⟨g,i,none⟩) b0).trans c0) (by simp;omega)
   have d3:wr.cell? ⟨w.heap.size,0,none⟩=some (.string (bs nm)):=f.out.cell (zZ HK.out).1 (by simp)
   have c5:g<wr.heap.size:=by omega
   have c3:w.heap.size<wr.heap.size:=by omega
   have HX:=zh Q
   have A:=zh (uO nm S Q)
   obtain⟨v1,o,⟨a1,n1,d1,b1⟩,_,_⟩:=B.out.look x N true
   subst b1
   have r:Hid (Below w.heap.size w wr):=L.out.trans (zX f.out (by omega) (by omega))
   have Z:(upTo S is i x).isSome=decide (x∈is.take i):=by
    unfold upTo
    by_cases b:x∈is.take i
    ·rw[if_pos b,decide_eq_true b]
     exact Option.isSome_iff_ne_none.2 (d.out.2 x b)
    ·rw[if_neg b,decide_eq_false b];rfl
   rw[Z]at o
   clear c0 Q Z
   by_cases b:x∈is.take i
   ·rw[decide_eq_true b]at o
    simp only[if_true]at o
    have v:Hid (Tp.imps nm S [] is=some (10,none)):=by unfold Hid;rw[d.out.1,A.out,if_pos (Or.inr b)]
    clear b
    go_wp2_with fail
    refine⟨rfl,r.out,?_⟩
    rw[v.out]
    rfl
   ·rw[decide_eq_false b]at o
    simp only[if_true]at o
    have V:=beq_bs x nm
    by_cases m:x=nm
    ·rw[decide_eq_true m]at V
     have v:Hid (Tp.imps nm S [] is=some (10,none)):=by unfold Hid;rw[d.out.1,A.out,if_pos (Or.inl m)]
     clear b m
     go_wp2_with fail
     refine⟨rfl,r.out,?_⟩
     rw[v.out]
     rfl
    ·rw[decide_eq_false m]at V
     have c1:Hid (SeenV wr u S):=by
      have b7:=HS.out
      rcases b7 with q|⟨h,n,h1,h2⟩
      ·exact Or.inl q
      ·exact Or.inr ⟨h,n,h1,h2.ext f.out b5.out (by have:=c2.out h h1;omega)⟩
     obtain⟨v2,y,⟨a2,n2,d2,b6⟩,W,X⟩:=c1.out.look x N true
     subst b6
     have Y:=zh W
     have a4:=zh X
     have a3:Hid (¬(x=nm\/x∈is.take i)):=fun e=>e.elim m b
     clear W X b m
     cases l:S x with
     |none =>
      rw[l]at y
      simp only[Option.isSome_none,if_true]at y
      have v:Hid (Tp.imps nm S [] is=some (8,none)):=by unfold Hid;rw[d.out.1,A.out,if_neg a3.out,if_pos l]
      clear l
      go_wp2_with fail
      refine⟨rfl,r.out,?_⟩
      rw[v.out]
      rfl
     |some ll =>
      rw[l]at y Y a4
      simp only[Option.isSome_some,if_true]at y
      have O:=zh l
      clear l
      go_wp2_with (at_mapUpdate;refine kC _ rfl _ _ _ rfl (w.heap.size+1) i (upTo S is i) B.out (by omega) x N (.slice a2 n2 d2) ll Y.out a4.out rfl rfl rfl ?_;intro w3 q1 q2 q3)
      have a9:Hid (SeenM w3 (w.heap.size+1) (i+1) (upTo S is (i+1))):=by unfold Hid;rw[upTo_succ HX.out O.out];exact q1
      have b4:=zh (f.out.trans q2)
      have a6:Hid (Tp.imps nm S [] is=impsAt nm S is (i+1)/\∀k∈is.take (i+1),S k≠none):=by
       refine⟨by rw[d.out.1,A.out,if_neg a3.out,if_neg (by rw[O.out];simp)],fun k j=>?_⟩
       obtain⟨hi,e⟩:=List.getElem?_eq_some_iff.1 HX.out
       rw[List.take_succ_eq_append_getElem hi,e,List.mem_append]at j
       rcases j with j|j
       ·exact d.out.2 k j
       ·rw[List.mem_singleton.1 j,O.out];simp
      clear q1 q2 q3
      go_wp2_with fail
      go_roundg (a-(i+1))
      case measure=>omega
      case rel=>exact⟨i+1,by omega,rfl,by go_num,a9,b4,a6⟩
  ·have a5:¬(i:Int)<(a:Int):=by omega
   have P:i=is.length:=by have:=HL.out;omega
   have a8:Hid (Tp.imps nm S [] is=none):=by unfold Hid;rw[d.out.1,P,impsAt_all]
   have a7:Hid (SeenM wr (w.heap.size+1) i (fun k=>if k∈is then S k else none)):=by
    have:=B.out
    rw[P]at this ⊢
    unfold upTo at this
    rw[List.take_length]at this
    exact this
   have r:Hid (Below w.heap.size w wr):=L.out.trans (zX f.out (by omega) (by omega))
   clear B f d P
   go_wp2_with fail
   go_ret
   refine⟨r.out,?_⟩
   rw[a8.out]
   exact⟨_,_,rfl,by omega,a7.out⟩
theorem fidx_of (l:List Sy)(n:Bs):(∃(k:Nat) (a:k<l.length),fidx l n=(k:Int)/\Tp.findS l n=some l[k])\/fidx l n=-1/\Tp.findS l n=none:=by
 unfold fidx Tp.findS
 cases h:l.findIdx? (fun s=>s.1==n) with
 |some k =>
  left
  have b:=h
  rw[List.findIdx?_eq_some_iff_getElem]at b
  obtain⟨a,e,c⟩:=b
  refine⟨k,a,rfl,?_⟩
  rw[List.find?_eq_some_iff_getElem]
  exact⟨by simpa using e,k,a,rfl,fun j f=>by simpa using c j f⟩
 |none =>
  right
  refine⟨rfl,?_⟩
  rw[List.find?_eq_none]
  rw[List.findIdx?_eq_none_iff]at h
  intro x d
  simpa using h x d
def lookRes (r:Except Nat (Nat×Int)):Value:=match r with
 | .ok x=>.tuple #[.agg #[.int .i64 (x.1:Int),.int .i64 x.2],.int .i64 0]
 | .error e=>.tuple #[.agg #[.int .i64 0,.int .i64 0],.int .i64 (e:Int)]
def seenRes (o:Option (List Sy)) (nm:Bs):Except Nat (Nat×Int):=match o with
 |none=>.error 5
 |some l=>match Tp.findS l nm with
  |some s=>.ok s.2
  |none=>.error 7
theorem xL {w:World}{ob n:Nat}{S:Seen}(h:SeenM w ob n S)(md nm:Bs)(R:md.length<=1000000) :
  Calls Tryz.prog 115 #[.map (some ob),.string (bs md),.string (bs nm)] w fun e w'=>e=.returned (lookRes (seenRes (S md) nm))/\Below w.heap.size w w':=by
 have G:∀I,Below w.heap.size w (w.alloc I):=fun I=>zb _ _
 obtain⟨d,f⟩:∃d,d=w.alloc (.cells #[.int .i64 0,.int .i64 0] 196):=⟨_,rfl⟩
 have z:Below w.heap.size w d:=by rw[f];exact G _
 have j:d.heap[w.heap.size]?=some (.cells #[.int .i64 0,.int .i64 0] 196 (0,0)):=by rw[f];exact zo _ _
 have s:w.heap.size<d.heap.size:=by rw[f];simp
 obtain⟨v1,r,⟨a1,n1,d1,O⟩,i,t⟩:=(h.on z).look md R true
 subst O
 have D:d.cell? ⟨w.heap.size,0,none⟩=some (.int .i64 0):=(za j).trans rfl
 have c1:d.cell? ⟨w.heap.size,1,none⟩=some (.int .i64 0):=(za j).trans rfl
 have L:d.frozen? ⟨w.heap.size,0,none⟩=false:=zi j
 have K:d.frozen? ⟨w.heap.size,1,none⟩=false:=zi j
 have C:=zh z
 have F:=zh j
 clear G h z j
 cases x:S md with
 |none =>
  rw[x]at r
  simp only[Option.isSome_none,if_true]at r
  clear x i t
  go_enter Tryz.func115,Tryz.ntmps115
  go_upto_region 1 with fail
  rw[<-f]
  clear f
  go_wp2_with fail
  exact bodyPost_ret (v:=.tuple #[.agg #[.int .i64 0,.int .i64 0],.int .i64 5]) (by simp[results,Tryz.results115,go_sem,D,c1]) rfl ⟨rfl,C.out.trans (zq (zq (Below.refl _ _) zn 0 _) zn 1 _)⟩
 |some l =>
  rw[x]at r i t
  simp only[Option.isSome_some,if_true,Option.getD_some]at r i t
  clear x
  have E:=vW i t nm
  have H:=zh i
  have u:=zh E
  obtain⟨a9,c9,P⟩:=i.len
  cases P
  clear i E
  rcases fidx_of l nm with⟨k,U,o,q⟩|⟨o,q⟩
  ·rw[o]at u
   have m:Hid (lookRes (seenRes (some l) nm)=.tuple #[.agg #[.int .i64 (l[k].2.1:Int),.int .i64 l[k].2.2],.int .i64 0]):=by unfold Hid seenRes;simp only;rw[q];rfl
   obtain⟨g,N,_,A,y⟩:=H.out.cell k U
   subst N
   have J:d.cell? ⟨g,k*3+1,none⟩=some (.int .i64 (l[k].2.1:Int)):=y 1 (by omega)
   have M:d.cell? ⟨g,k*3+2,none⟩=some (.int .i64 l[k].2.2):=y 2 (by omega)
   have V:=zh J
   have W:=zh M
   have Z:(k:Int)<(l.length:Int):=by omega
   have X:(l.length:Int)<=1000:=by omega
   clear y o q J M
   rw[m.out]
   clear m
   generalize l[k].2.1=x1 at *
   generalize l[k].2.2=x2 at *
   generalize l.length=ln at *
   go_enter Tryz.func115,Tryz.ntmps115
   go_upto_region 1 with fail
   rw[<-f]
   clear f
   go_wp2_with fail
   refine u.out.mono ?_
   rintro e a⟨rfl,b⟩
   have c:=(b.block _ s).trans F.out
   have r1:a.cell? ⟨g,k*3+1,none⟩=some (.int .i64 (x1:Int)):=(b.cell (p:=⟨g,_,none⟩) A).trans V.out
   have r2:a.cell? ⟨g,k*3+2,none⟩=some (.int .i64 x2):=(b.cell (p:=⟨g,_,none⟩) A).trans W.out
   have Y:g<a.heap.size:=Nat.lt_of_lt_of_le A b.size
   have Q:w.heap.size<a.heap.size:=Nat.lt_of_lt_of_le s b.size
   have s0:a.cell? ⟨w.heap.size,0,none⟩=some (.int .i64 0):=(za c).trans rfl
   have s1:a.cell? ⟨w.heap.size,1,none⟩=some (.int .i64 0):=(za c).trans rfl
   have T:a.frozen? ⟨w.heap.size,0,none⟩=false:=zi c
   have t1:a.frozen? ⟨w.heap.size,1,none⟩=false:=zi c
   have B:Hid (Below w.heap.size w a):=C.out.trans (b.mono (by omega))
   clear c b D c1 L K
   go_wp2_with fail
   go_region
   go_wp2_with fail
   exact bodyPost_ret (v:=.tuple #[.agg #[.int .i64 (x1:Int),.int .i64 x2],.int .i64 0]) (by simp[results,Tryz.results115,go_sem,s0,s1]) rfl ⟨rfl,B.out.trans (zq (zq ((Below.refl _ _).drew) zn 0 _) zn 1 _)⟩
  ·rw[o]at u
   have m:Hid (lookRes (seenRes (some l) nm)=.tuple #[.agg #[.int .i64 0,.int .i64 0],.int .i64 7]):=by unfold Hid seenRes;simp only;rw[q];rfl
   clear o q H
   rw[m.out]
   clear m
   generalize l.length=ln at *
   go_enter Tryz.func115,Tryz.ntmps115
   go_upto_region 1 with fail
   rw[<-f]
   clear f
   go_wp2_with fail
   refine u.out.mono ?_
   rintro e a⟨rfl,b⟩
   have c:=(b.block _ s).trans F.out
   have Q:w.heap.size<a.heap.size:=Nat.lt_of_lt_of_le s b.size
   have s0:a.cell? ⟨w.heap.size,0,none⟩=some (.int .i64 0):=(za c).trans rfl
   have s1:a.cell? ⟨w.heap.size,1,none⟩=some (.int .i64 0):=(za c).trans rfl
   have T:a.frozen? ⟨w.heap.size,0,none⟩=false:=zi c
   have t1:a.frozen? ⟨w.heap.size,1,none⟩=false:=zi c
   have B:Hid (Below w.heap.size w a):=C.out.trans (b.mono (by omega))
   clear c b D c1 L K
   go_wp2_with fail
   exact bodyPost_ret (v:=.tuple #[.agg #[.int .i64 0,.int .i64 0],.int .i64 7]) (by simp[results,Tryz.results115,go_sem,s0,s1]) rfl ⟨rfl,B.out.trans (zq (zq (Below.refl _ _) zn 0 _) zn 1 _)⟩
end Go.Proofs.YtibncofnnlbmcaaGreatDoor
