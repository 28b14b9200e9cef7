import Derived.Test.YtbkndnmglhghlaaGreatDoorKMa
set_option maxRecDepth 100000
set_option maxHeartbeats 4000000

namespace Go.Proofs.YtbkndnmglhghlaaGreatDoor
open Go.RowKit Go.Sort
open Tp (Sy)
theorem of_walk {w:World}{nm:List UInt8}{y gn pn B E C x A:Nat}{D s n z:Option Addr}{mg mp:Nat->List Sy}(b0:mg 0=[])(hG:AskOG w gn s mg)(b3:mp 0=mg gn)(hP:AskOP w pn n mp)(b1:∀i,(mg i).length<=1000)(b4:∀i,(mp i).length<=1000)(a0:(mp pn).length<=20)(e8:gn<=1000000000)(f2:pn<=1000000000) :
  Calls Tryz.prog 91 #[.agg #[.string (bs nm),.slice D y E,.slice s gn C,.slice n pn x,.slice z B A]] w fun e w'=>∃v,e=.returned v/\Below w.heap.size w w'/\SL w' w.heap.size v (srt (mp pn)):=by
 obtain⟨i3,b2,a2,a3,a4⟩:=info_parts Tryz.infoSym
 have R:(w.alloc (.cells #[.string (bs nm),.slice D y E,.slice s gn C,.slice n pn x,.slice z B A] 66)).heap[w.heap.size]?=some (.cells #[.string (bs nm),.slice D y E,.slice s gn C,.slice n pn x,.slice z B A] 66 (0,0)):=zl _ _
 obtain⟨k0,k1,k2,Y,k4⟩:=vO R
 have a6:=zh b0
 have HG:=zh hG
 have T:=zh b3
 have V:=zh hP
 have c8:=zh a0
 have c7:=zh b1
 have c9:=zh b4
 have HK:=zh R
 have e5:(gn:Int)<=1000000000:=by omega
 have e6:(pn:Int)<=1000000000:=by omega
 clear b0 hG b3 hP a0 b1 b4 R k0 k1 Y k4
 go_enter Tryz.func91,Tryz.ntmps91
 go_wp2_with fail
 go_loopg [3,11] gn (fun k v vi wr=>∃i:Nat,i<=gn/\k=gn-i/\vi=.int .i64 (i:Int)/\Hid (wr.ownsRow (w.heap.size+1) 53 3 v (mg i).length (sycs (mg i)))/\Hid (Below (w.heap.size+1) (w.alloc (.cells #[.string (bs nm),.slice D y E,.slice s gn C,.slice n pn x,.slice z B A] 66)) wr))
 case atStart=>exact⟨0,by omega,by omega,rfl,by unfold Hid;rw[a6.out];exact World.ownsRow_nil _ _ _ _,Below.refl _ _⟩
 case round =>
  obtain⟨i,d2,t,rfl,m,b⟩:=hrel
  have a:=m.out
  have N:=c7.out i
  have O:=b.out.size
  have e7:(w.alloc (.cells #[.string (bs nm),.slice D y E,.slice s gn C,.slice n pn x,.slice z B A] 66)).heap.size=w.heap.size+1:=by simp
  by_cases d7:i<gn
  ·have b7:(i:Int)<(gn:Int):=by omega
   obtain⟨g,l,x1,x2,x3,d1,d0,J,H,c2,K,M⟩:=HG.out i d7
   subst d1
   have c:∀(o:Nat) (u:Value),w.cell? ⟨g,o,none⟩=some u->wr.cell? ⟨g,o,none⟩=some u:=fun o u h=>(b.out.cell (p:=⟨g,o,none⟩) (by simp;omega)).trans (zX h _)
   have e1:=c _ _ J
   have e2:=c _ _ H
   have e3:=c _ _ c2
   have e4:=c _ _ K
   have b6:g<wr.heap.size:=by omega
   obtain⟨W,c1,X⟩:=z7 a
   subst X
   clear J H c2 K c m
   cases x3 with
   |true =>
    have q:=(a.alloc (.cells #[.string (bs l),.int .i64 (x1:Int),.int .i64 (x2:Int),.bool true] 57)).alloc (.cells #[.string (bs l),.int .i64 (x2:Int),.int .i64 (-1)] 53)
    go_wp2_with (at_builtin;refine zH _ rfl _ _ 42 rfl (w.heap.size+1) 53 i3 (.agg #[.string ⟨#[]⟩,.int .i64 0,.int .i64 0]) 3 32 Tryz.underlying42 b2 a2 a3 a4 rfl (by decide) _ _ _ rfl q ⟨wr.heap.size+1,0,none⟩ 1 1 [.string (bs l),.int .i64 (x2:Int),.int .i64 (-1)] rfl rfl (newsSy wr _ _ _ _ _) (by intro u L;simp at L;rcases L with rfl|rfl|rfl<;>rfl) (by unfold maxLen;omega) (by omega) (by simp;omega) ?_)
    intro Z w3 G F _
    have f:=zh ((((b.out.alloc (by omega) _).alloc (by simp;omega) _)).grown F (by simp;omega) (fun k t=>(q.lt k t).1))
    have r:Hid (w3.ownsRow (w.heap.size+1) 53 3 Z (mg (i+1)).length (sycs (mg (i+1)))):=by
     unfold Hid
     rw[show mg (i+1)=mg i++[(l,x2,(-1))] by simpa using M,sycs_app,List.length_append]
     exact G
    clear G F q a
    go_wp2_with fail
    go_roundg (gn-(i+1))
    case measure=>omega
    case rel=>exact⟨i+1,by omega,rfl,by go_num,r,f⟩
   |false =>
    have f:∀d,Below (w.heap.size+1) _ (wr.alloc d):=fun d=>b.out.alloc (by omega) _
    have r:∀d,Hid ((wr.alloc d).ownsRow (w.heap.size+1) 53 3 (.slice W (mg i).length c1) (mg (i+1)).length (sycs (mg (i+1)))):=by
     intro d
     unfold Hid
     rw[show mg (i+1)=mg i by simpa using M]
     exact a.alloc d
    have Q:=zh f
    clear a f
    go_wp2_with fail
    go_roundg (gn-(i+1))
    case measure=>omega
    case rel=>exact⟨i+1,by omega,rfl,by go_num,r _,Q.out _⟩
  ·have b7:¬(i:Int)<(gn:Int):=by omega
   have a9:i=gn:=by omega
   have a8:Hid (wr.ownsRow (w.heap.size+1) 53 3 u3 (mp 0).length (sycs (mp 0))):=by unfold Hid;rw[T.out,<-a9];exact a
   have a5:=b
   have Y:wr.cell? ⟨w.heap.size,3,none⟩=some (.slice n pn x):=(b.out.cell (p:=⟨w.heap.size,3,none⟩) (by simp)).trans (vO HK.out).2.2.2.1
   have b9:w.heap.size<wr.heap.size:=by omega
   clear m a b HG a6 a9 d2 t N O k2
   go_wp2_with fail
   go_loopg [3,29] pn (fun k v vi wr=>∃i:Nat,i<=pn/\k=pn-i/\vi=.int .i64 (i:Int)/\Hid (wr.ownsRow (w.heap.size+1) 53 3 v (mp i).length (sycs (mp i)))/\Hid (Below (w.heap.size+1) (w.alloc (.cells #[.string (bs nm),.slice D y E,.slice s gn C,.slice n pn x,.slice z B A] 66)) wr))
   case atStart=>exact⟨0,by omega,by omega,rfl,a8,a5⟩
   case round =>
    obtain⟨j,e9,f0,rfl,m,b⟩:=hrel
    clear a8 a5 Y b9
    have a:=m.out
    have N:=c9.out j
    have O:=b.out.size
    by_cases b8:j<pn
    ·have b5:(j:Int)<(pn:Int):=by omega
     obtain⟨g,l,x1,x2,y3,y4,y5,P,n4,n5,d3,d4,d5,d8,d0,J,H,c2,K,c4,c5,M⟩:=V.out j b8
     subst d8
     have c:∀(o:Nat) (u:Value),w.cell? ⟨g,o,none⟩=some u->wr.cell? ⟨g,o,none⟩=some u:=fun o u h=>(b.out.cell (p:=⟨g,o,none⟩) (by simp;omega)).trans (zX h _)
     have e1:=c _ _ J
     have e2:=c _ _ H
     have e3:=c _ _ c2
     have e4:=c _ _ K
     have f3:=c _ _ c4
     have f4:=c _ _ c5
     have b6:g<wr.heap.size:=by omega
     obtain⟨W,c1,X⟩:=z7 a
     subst X
     clear J H c2 K c4 c5 c m
     cases x2 with
     |true =>
      have q:=(a.alloc (.cells #[.string (bs l),.int .i64 (x1:Int),.bool true,.slice y3 P d3,.slice y4 n4 d4,.slice y5 n5 d5] 157)).alloc (.cells #[.string (bs l),.int .i64 0,.int .i64 (P:Int)] 53)
      go_wp2_with (at_builtin;refine zH _ rfl _ _ 42 rfl (w.heap.size+1) 53 i3 (.agg #[.string ⟨#[]⟩,.int .i64 0,.int .i64 0]) 3 32 Tryz.underlying42 b2 a2 a3 a4 rfl (by decide) _ _ _ rfl q ⟨wr.heap.size+1,0,none⟩ 1 1 [.string (bs l),.int .i64 0,.int .i64 (P:Int)] rfl rfl (newsSy wr _ _ _ _ _) (by intro u L;simp at L;rcases L with rfl|rfl|rfl<;>rfl) (by unfold maxLen;omega) (by omega) (by simp;omega) ?_)
      intro Z w3 G F _
      have f:=zh ((((b.out.alloc (by omega) _).alloc (by simp;omega) _)).grown F (by simp;omega) (fun k t=>(q.lt k t).1))
      have r:Hid (w3.ownsRow (w.heap.size+1) 53 3 Z (mp (j+1)).length (sycs (mp (j+1)))):=by
       unfold Hid
       rw[show mp (j+1)=mp j++[(l,0,(P:Int))] by simpa using M,sycs_app,List.length_append]
       exact G
      clear G F q a
      go_wp2_with fail
      go_roundg (pn-(j+1))
      case measure=>omega
      case rel=>exact⟨j+1,by omega,rfl,by go_num,r,f⟩
     |false =>
      have f:∀d,Below (w.heap.size+1) _ (wr.alloc d):=fun d=>b.out.alloc (by omega) _
      have r:∀d,Hid ((wr.alloc d).ownsRow (w.heap.size+1) 53 3 (.slice W (mp j).length c1) (mp (j+1)).length (sycs (mp (j+1)))):=by
       intro d
       unfold Hid
       rw[show mp (j+1)=mp j by simpa using M]
       exact a.alloc d
      have Q:=zh f
      clear a f
      go_wp2_with fail
      go_roundg (pn-(j+1))
      case measure=>omega
      case rel=>exact⟨j+1,by omega,rfl,by go_num,r _,Q.out _⟩
    ·have b5:¬(j:Int)<(pn:Int):=by omega
     have U:j=pn:=by omega
     rw[U]at a
     obtain⟨f1,d9⟩:=own_syrow a
     have S:Hid (Below w.heap.size w wr):=(((Below.refl w.heap.size w).alloc zn _).trans (b.out.mono (by omega)))
     rcases d9 with⟨rfl,c6⟩|⟨g,cap,rfl,hge,hrow⟩
     ·have I:=zh (sort_nil wr)
      have e0:srt (mp pn)=[]:=List.eq_nil_of_length_eq_zero (by rw[j6,c6];rfl)
      unfold fnCmp at I
      clear a m b V T U N O
      go_wp2_with fail
      refine I.out.mono ?_
      rintro e w9⟨rfl,rfl⟩
      go_wp2_with fail
      go_ret
      exact⟨_,rfl,S.out,Or.inl ⟨rfl,e0⟩⟩
     ·have I:=zh (sort_post hrow c8.out)
      have a7:=zh hge
      unfold fnCmp at I
      have d6:(srt (mp pn)).length=(mp pn).length:=j6 _
      generalize (mp pn).length=ln at *
      clear a m b V T U N O hrow hge
      go_wp2_with fail
      refine I.out.mono ?_
      rintro e w9⟨rfl,h9,g9⟩
      have H9:=zh h9
      have G9:=zh g9
      clear h9 g9
      go_wp2_with fail
      go_ret
      refine⟨.slice (some ⟨g,0,none⟩) ln cap,rfl,S.out.trans ?_,Or.inr ⟨g,cap,by rw[d6],by have:=a7.out;omega,H9.out⟩⟩
      exact(Below.refl w.heap.size wr).grown G9.out (by have:=S.out.size;omega) (fun k t=>by cases t;have:=a7.out;omega)
end Go.Proofs.YtbkndnmglhghlaaGreatDoor

namespace Go.Proofs.YtbkndnmglhghlaaGreatDoor
open Go.RowKit Go.Sort
open Tp (Sy G Pr)
variable {l:List Sy}{B:Nat}{α β:Type}{v:Value}{w:World}
theorem vG (p:α->Bool)(f:α->β)(l:List α)(i:Nat)(h:i<l.length):((l.take (i+1)).filter p).map f=((l.take i).filter p).map f++(if p l[i] then [f l[i]] else []):=by
 rw[List.take_succ_eq_append_getElem h,List.filter_append,List.map_append]
 congr 1
 by_cases a:p l[i]=true
 ·simp[a]
 ·simp[a]
theorem filt_len (p:α->Bool)(f:α->β)(l:List α):((l.filter p).map f).length<=l.length:=by
 rw[List.length_map];exact List.length_filter_le _ _
theorem of_post {m:Tp.M}(H:m.vars.length<=10)(J:m.procs.length<=10){w:World}{y u C s:Option Addr}{z x D t:Nat}(h:MB w w.heap.size m y u C s z x D t) :
  Calls Tryz.prog 91 #[.agg (mcells (bs m.name) (.slice y m.imports.length z) (.slice u m.vars.length x) (.slice C m.procs.length D) (.slice s m.body.length t))] w fun e w'=>∃v,e=.returned v/\Below w.heap.size w w'/\SL w' w.heap.size v (srt (Tp.symsOf m)):=by
 obtain⟨nm,is,a,ps,body⟩:=m
 obtain⟨K,A,B⟩:=h.pr
 have q:=h.gl
 simp only at q A B H J
 obtain⟨mg,d⟩:∃mg:Nat->List Sy,mg=fun i=>((a.take i).filter (·.seen)).map Tp.syG:=⟨_,rfl⟩
 obtain⟨mp,f⟩:∃mp:Nat->List Sy,mp=fun i=>mg a.length++((ps.take i).filter (·.seen)).map Tp.syP:=⟨_,rfl⟩
 have E:mp ps.length=Tp.symsOf ⟨nm,is,a,ps,body⟩:=by rw[f,d];simp[Tp.symsOf]
 have F:mg 0=[]:=by rw[d];simp
 have I:mp 0=mg a.length:=by rw[f];simp
 have r:∀i,(mg i).length<=10:=by
  intro i;rw[d];have:=filt_len (fun g:G=>g.seen) Tp.syG (a.take i);simp only[List.length_take]at this ⊢;omega
 have b2:∀i,(mp i).length<=20:=by
  intro i;rw[f];have:=filt_len (fun p:Pr=>p.seen) Tp.syP (ps.take i);have:=r a.length;simp only[List.length_take,List.length_append]at *;omega
 rw[<-E]
 refine of_walk (mg:=mg) (mp:=mp) (gn:=a.length) (pn:=ps.length) F ?_ I ?_ (fun i=>by have:=r i;omega) (fun i=>by have:=b2 i;omega) (b2 _) (by omega) (by omega)
 ·intro i c
  obtain⟨g,cap,l,P,n,o⟩:=yI q (by omega)
  cases l
  have b:=fun j (k:j<4)=>(o (i*4+j) (by omega)).trans (uA a i c j k)
  refine⟨g,a[i].name,a[i].pos,a[i].len,a[i].seen,rfl,n,b 0 (by omega),b 1 (by omega),b 2 (by omega),b 3 (by omega),?_⟩
  rw[d]
  exact vG (fun g:G=>g.seen) Tp.syG a i c
 ·intro i c
  obtain⟨g,cap,l,P,n,o⟩:=yI B (by omega)
  cases l
  obtain⟨Z,vv,Y,X,Q,R,S,r4,T⟩:=js ps K A i c
  have b:=fun j (k:j<6)=>(o (i*6+j) (by omega)).trans (Q j k)
  obtain⟨U,L,rfl⟩:=R.shape
  obtain⟨V,N,rfl⟩:=S.shape
  obtain⟨W,O,rfl⟩:=T.shape
  refine⟨g,ps[i].name,ps[i].pos,ps[i].seen,U,V,W,ps[i].params.length,ps[i].vars.length,ps[i].body.length,L,N,O,rfl,n,b 0 (by omega),b 1 (by omega),b 2 (by omega),b 3 (by omega),b 4 (by omega),b 5 (by omega),?_⟩
  rw[f]
  simp only[List.append_assoc]
  congr 1
  exact vG (fun p:Pr=>p.seen) Tp.syP ps i c
theorem SL.len (h:SL w B v l):∃a c,v=.slice a l.length c:=by
 rcases h with⟨rfl,rfl⟩|⟨g,cap,rfl,_⟩
 ·exact⟨none,0,rfl⟩
 ·exact⟨_,_,rfl⟩
theorem SL.cell {w:World}{B:Nat}{a:Option Addr}{n c:Nat}{l:List Sy}(h:SL w B (.slice a n c) l)(i:Nat)(d:i<l.length):∃g,a=some ⟨g,0,none⟩/\B<=g/\g<w.heap.size/\∀j,j<3->w.cell? ⟨g,i*3+j,none⟩=(encSy l[i])[j]?:=by
 rcases h with⟨_,rfl⟩|⟨g,cap,q1,q2,q3⟩
 ·simp at d
 ·cases q1
  obtain⟨m,e,o,k⟩:=q3.b
  refine⟨g,rfl,q2,zc e,fun j f=>?_⟩
  rw[za e,<-Array.getElem?_toList,<-sycs_get l i d j f,<-k,List.getElem?_take_of_lt (by omega)]
theorem SL.on {w':World}(h:SL w B v l)(k:Below w.heap.size w w'):SL w' B v l:=by
 rcases h with q|⟨g,cap,e,f,a⟩
 ·exact Or.inl q
 ·obtain⟨d,c,i,j⟩:=a.b
  exact Or.inr ⟨g,cap,e,f,⟨⟨d,(k.block g (zc c)).trans c,i,j⟩,a.n,a.m⟩⟩
end Go.Proofs.YtbkndnmglhghlaaGreatDoor

namespace Go.Proofs.YtbkndnmglhghlaaGreatDoor
open Go.RowKit Go.Sort
open Tp (Sy)
variable {l:List Sy}{n:List UInt8}{B:Nat}{v:Value}{w:World}
theorem bs_inj {a b:List UInt8}(h:bs a=bs b):a=b:=by
 have:=congrArg (fun x:ByteArray=>x.data.toList) h
 simpa[bs] using this
theorem find1_post (s:Sy)(n:List UInt8)(W:World)(a:Nat)(b:W.cell? ⟨a,0,none⟩=some (.string (bs n))) :
  Calls Tryz.prog 97 #[.agg #[.string (bs s.1),.int .i64 (s.2.1:Int),.int .i64 s.2.2],.pointer (some ⟨a,0,none⟩)] W fun e w'=>e=.returned (.bool (decide (s.1=n)))/\Below W.heap.size W w':=by
 obtain⟨nm,f,x2⟩:=s
 simp only
 have c:=World.block_lt_of_cell? _ _ b
 by_cases h:nm=n
 ·subst h
  go_enter Tryz.func97,Tryz.ntmps97
  go_wp2_with fail
  go_ret
  exact⟨by simp,zb _ _⟩
 ·have d:¬bs nm=bs n:=fun e=>h (bs_inj e)
  go_enter Tryz.func97,Tryz.ntmps97
  go_wp2_with fail
  go_ret
  exact⟨by simp[h,zk],zb _ _⟩
def fidx (l:List Sy) (n:List UInt8):Int:=match l.findIdx? (fun s=>s.1==n) with
 |some i=>(i:Int)
 |none=>-1
theorem fidx_at {i:Nat}(b:i<l.length)(h:l[i].1=n)(a:∀k (hk:k<i),l[k].1≠n):fidx l n=(i:Int):=by
 unfold fidx
 have:l.findIdx? (fun s=>s.1==n)=some i:=by
  rw[List.findIdx?_eq_some_iff_getElem]
  exact⟨b,by simpa using h,fun j c=>by simpa using a j c⟩
 rw[this]
theorem fidx_no (b:∀k (a:k<l.length),l[k].1≠n):fidx l n=-1:=by
 unfold fidx
 have:l.findIdx? (fun s=>s.1==n)=none:=by
  rw[List.findIdx?_eq_none_iff]
  intro x c
  obtain⟨k,a,rfl⟩:=List.getElem_of_mem c
  simpa using b k a
 rw[this]
theorem index_post (h:SL w B v l)(V:l.length<=1000)(n:List UInt8)(o:Nat)(f:w.cell? ⟨o,0,none⟩=some (.string (bs n))) :
  Calls Tryz.prog 32 #[v,.func (.func 97) #[] #[.pointer (some ⟨o,0,none⟩)]] w fun e w'=>e=.returned (.int .i64 (fidx l n))/\Below w.heap.size w w':=by
 obtain⟨a,c,rfl⟩:=h.len
 have K:(l.length:Int)<=1000:=by omega
 have D:=World.block_lt_of_cell? _ _ f
 have H:=zh h
 have M:=zh f
 obtain⟨d,r⟩:∃d,d=l.length:=⟨_,rfl⟩
 rw[<-r]at K ⊢
 have z:=zh r
 clear h r f
 go_enter Tryz.func32,Tryz.ntmps32
 go_wp2_with fail
 go_loopg [8] d (fun k P wr=>∃i:Nat,i<=d/\k=d-i/\P=.int .i64 (i:Int)/\Hid (∀k (b:k<l.length),k<i->l[k].1≠n)/\Hid (Below w.heap.size w wr))
 case atStart=>exact⟨0,by omega,by omega,rfl,fun k _ b=>by omega,Below.refl _ _⟩
 case round =>
  obtain⟨i,R,b,rfl,s,m⟩:=hrel
  by_cases J:i<d
  ·have C:(i:Int)<(d:Int):=by omega
   have y:i<l.length:=by have:=z.out;omega
   obtain⟨g,rfl,_,I,u⟩:=H.out.cell i y
   have f:=fun j (O:j<3)=>(m.out.cell (p:=⟨g,i*3+j,none⟩) I).trans (u j O)
   have S:wr.cell? ⟨g,i*3,none⟩=some (.string (bs l[i].1)):=f 0 (by omega)
   have T:wr.cell? ⟨g,i*3+1,none⟩=some (.int .i64 (l[i].2.1:Int)):=f 1 (by omega)
   have U:wr.cell? ⟨g,i*3+2,none⟩=some (.int .i64 l[i].2.2):=f 2 (by omega)
   have Q:g<wr.heap.size:=by have:=m.out.size;omega
   have N:=zh (find1_post l[i] n wr o ((m.out.cell (p:=⟨o,0,none⟩) D).trans M.out))
   have E:Hid (l[i].1=n->fidx l n=(i:Int)):=fun e=>fidx_at y e (fun k b=>s.out k (by omega) b)
   have G:Hid (¬l[i].1=n->∀k (b:k<l.length),k<i+1->l[k].1≠n):=by
    intro L k b J
    by_cases e:k=i
    ·subst e;exact L
    ·exact s.out k b (by omega)
   clear f u
   generalize l[i].1=x0 at *
   generalize l[i].2.1=x1 at *
   generalize l[i].2.2=x2 at *
   go_wp2_with fail
   refine N.out.mono ?_
   rintro e W⟨rfl,A⟩
   have x:=zh (m.out.trans (A.mono m.out.size))
   clear A
   by_cases q:x0=n
   ·rw[decide_eq_true q]
    have t:=E.out q
    go_wp2_with fail
    go_ret
    exact⟨by first|rfl|(rw[t];rfl),x.out⟩
   ·rw[decide_eq_false q]
    have F:=zh (G.out q)
    go_wp2_with fail
    go_roundg (d-(i+1))
    case measure=>omega
    case rel=>exact⟨i+1,by omega,rfl,by go_num,F,x⟩
  ·have C:¬(i:Int)<(d:Int):=by omega
   have t:fidx l n=-1:=fidx_no (fun k b=>s.out k b (by have:=z.out;omega))
   go_wp2_with fail
   go_ret
   exact⟨by first|rfl|(rw[t];rfl),m.out⟩
theorem find_post (h:SL w B v l)(j:l.length<=1000)(n:List UInt8) :
  Calls Tryz.prog 45 #[v,.string (bs n)] w fun e w'=>e=.returned (.int .i64 (fidx l n))/\Below w.heap.size w w':=by
 have k:=zm
 have b:Below w.heap.size w (w.alloc (.cells #[.string (bs n)] 9)):=zb _ _
 have i:=zh (index_post (h.on b) j n w.heap.size (za (zl _ _)))
 have f:=zh b
 obtain⟨a,c,rfl⟩:=h.len
 clear h
 generalize l.length=ln at *
 go_enter Tryz.func45,Tryz.ntmps45
 go_wp2_with fail
 refine i.out.mono ?_
 rintro e m⟨rfl,d⟩
 have g:=zh (f.out.trans (d.mono (by simp)))
 clear d
 go_wp2_with fail
 go_ret
 exact⟨rfl,g.out⟩
end Go.Proofs.YtbkndnmglhghlaaGreatDoor

namespace Go.Proofs.YtbkndnmglhghlaaGreatDoor
open Go.RowKit Go.Maps
open Tp (Bs Th Sy Seen)
variable {nm:Bs}{f:Bs->Option Value}{l:List Sy}{B b i n:Nat}{S:Seen}{v:Value}{w w':World}
def SeenM (w:World) (sb n:Nat) (S:Seen):Prop:=∃f,MapV w sb n f/\∀k,match S k with
 |none=>f k=none
 |some l=>∃v,f k=some v/\SL w 0 v l/\l.length<=1000
theorem MapV.blk (h:MapV w b n f):∃a c,w.heap[b]?=some (.map a c):=by
 obtain⟨D,⟨a,clock,d,_⟩,_⟩:=h.own
 exact⟨a,clock,d⟩
theorem SL.ext (h:SL w B v l)(k:Ext b w w')(o:∃f c,w.heap[b]?=some (.map f c)):SL w' B v l:=by
 rcases h with q|⟨g,cap,r,s,d⟩
 ·exact Or.inl q
 ·obtain⟨i,a,t,u⟩:=d.b
  obtain⟨f,c,p⟩:=o
  have j:g≠b:=fun e=>by rw[e,p]at a;cases a
  exact Or.inr ⟨g,cap,r,s,⟨⟨i,(k.block g (zc a) j).trans a,t,u⟩,d.n,d.m⟩⟩
theorem SL.shape (h:SL w B v l):∃a c,v=.slice a l.length c:=h.len
theorem SeenM.on {w w':World}{g n:Nat}{S:Seen}(h:SeenM w g n S)(k:Below w.heap.size w w'):SeenM w' g n S:=by
 obtain⟨f,d,i⟩:=h
 refine⟨f,d.on (k.block _ d.lt),fun q=>?_⟩
 have:=i q
 cases e:S q with
 |none=>rw[e]at this;exact this
 |some l=>rw[e]at this;obtain⟨v,a,b,c⟩:=this;exact⟨v,a,b.on k,c⟩
theorem SeenM.lt {w:World}{a n:Nat}{S:Seen}(h:SeenM w a n S):a<w.heap.size:=by
 obtain⟨f,b,_⟩:=h
 exact b.lt
theorem SeenM.ext {w w':World}{d n b:Nat}{S:Seen}(h:SeenM w d n S)(k:Ext b w w')(m:∃es c,w.heap[b]?=some (.map es c))(i:d≠b):SeenM w' d n S:=by
 obtain⟨f,e,j⟩:=h
 refine⟨f,e.on (k.block _ e.lt i),fun q=>?_⟩
 have:=j q
 cases g:S q with
 |none=>rw[g]at this;exact this
 |some l=>rw[g]at this;obtain⟨v,a,b,c⟩:=this;exact⟨v,a,b.ext k m,c⟩
def SeenV (w:World) (sv:Value) (S:Seen):Prop:=(sv=.map none/\∀k,S k=none)\/∃sb n,sv=.map (some sb)/\SeenM w sb n S
theorem SeenV.on {w w':World}{sv:Value}{S:Seen}(h:SeenV w sv S)(k:Below w.heap.size w w'):SeenV w' sv S:=by
 rcases h with q|⟨c,n,a,b⟩
 ·exact Or.inl q
 ·exact Or.inr ⟨c,n,a,b.on k⟩
theorem SeenM.look {w:World}{i n:Nat}{S:Seen}(h:SeenM w i n S)(l:Bs)(m:l.length<=1000000)(c:Bool):∃v,(Instr.lookup 100 (.map (some i)) (.string (bs l)) c).run Tryz.prog w=.ok (if c then .tuple #[v,.bool (S l).isSome] else v) w/\(∃a n d,v=.slice a n d)/\SL w 0 v ((S l).getD [])/\((S l).getD []).length<=1000:=by
 obtain⟨f,j,k⟩:=h
 have e:=j.look (t:=100) Tryz.underlying100 (zeroSyms w) l m c
 have:=k l
 cases g:S l with
 |none =>
  rw[g]at this
  rw[this]at e
  exact⟨_,e,⟨none,0,0,rfl⟩,Or.inl ⟨rfl,rfl⟩,by simp⟩
 |some ll =>
  rw[g]at this
  obtain⟨v,a,b,d⟩:=this
  rw[a]at e
  obtain⟨p,c1,o⟩:=b.shape
  exact⟨_,e,⟨_,_,_,o⟩,b,d⟩
theorem SeenV.look {w:World}{sv:Value}{S:Seen}(h:SeenV w sv S)(l:Bs)(b:l.length<=1000000)(c:Bool):∃v,(Instr.lookup 100 sv (.string (bs l)) c).run Tryz.prog w=.ok (if c then .tuple #[v,.bool (S l).isSome] else v) w/\(∃a n d,v=.slice a n d)/\SL w 0 v ((S l).getD [])/\((S l).getD []).length<=1000:=by
 rcases h with⟨rfl,e⟩|⟨sb,n,rfl,h1⟩
 ·have f:=yX w (t:=100) Tryz.underlying100 (zeroSyms w) l b c
  rw[e l]
  exact⟨_,f,⟨none,0,0,rfl⟩,Or.inl ⟨rfl,rfl⟩,by simp⟩
 ·exact h1.look l b c
theorem SeenM.store {d:Nat}(g:MapV w d n f)(h:∀k,match S k with
 |none=>f k=none
 |some l=>∃v,f k=some v/\SL w 0 v l/\l.length<=1000){x:Bs}{v:Value}{l:List Sy}(p:SL w 0 v l)(o:l.length<=1000)(m:MapV w' d (n+1) (updV f x v))(e:Ext d w w'):SeenM w' d (n+1) (fun k=>if k=x then some l else S k):=by
 refine⟨_,m,fun k=>?_⟩
 by_cases i:k=x
 ·simp only[if_pos i,updV]
  exact⟨v,rfl,p.ext e g.blk,o⟩
 ·simp only[if_neg i,updV]
  have:=h k
  cases j:S k with
  |none=>rw[j]at this;exact this
  |some ll=>rw[j]at this;obtain⟨u,a,b,c⟩:=this;exact⟨u,a,b.ext e g.blk,c⟩
theorem kQ (w:World){d:Array Oper}{rest:List Oper}{o:Oper}{a:Act}{Q:Exit->Act->World->Prop}
  (s:o.guard=none)(m x v:Operand)(j:o.op=Op.mapUpdate 100 m x v)
  (b n:Nat)(S:Seen)(h:SeenM w b n S)(y:n<1000000)(l:Bs)(t:l.length<=1000000)(val:Value)(c:List Sy)(p:SL w 0 val c)(i:c.length<=1000)(u:a.eval m=.map (some b))(A:a.eval x=.string (bs l))(z:a.eval v=val)
  (r:∀w',SeenM w' b (n+1) (fun k=>if k=l then some c else S k)->Ext b w w'->w'.heap.size=w.heap.size->wpList Tryz.prog d Q rest (a.put o.dst undef) w') :
  wpList Tryz.prog d Q (o :: rest) a w:=by
 obtain⟨f,e,q⟩:=h
 exact yH w s m x v _ j _ Tryz.underlying100 b n f e y l t val u A z (fun w' B g C=>r w' (SeenM.store e q p i B g) g C)
def impsAt (own:Bs) (S:Seen) (l:List Bs) (i:Nat):Tp.Ck:=Tp.imps own S (l.take i).reverse (l.drop i)
theorem uu (own:Bs)(S:Seen)(l:List Bs):impsAt own S l 0=Tp.imps own S [] l:=by simp[impsAt]
theorem impsAt_all (own:Bs)(S:Seen)(l:List Bs):impsAt own S l l.length=none:=by simp[impsAt,Tp.imps]
theorem uw (own:Bs)(S:Seen){l:List Bs}{i:Nat}{x:Bs}(h:l[i]?=some x):impsAt own S l i=if x=own\/x∈l.take i then some (10,none) else if S x=none then some (8,none) else impsAt own S l (i+1):=by
 obtain⟨a,e⟩:=List.getElem?_eq_some_iff.1 h
 unfold impsAt
 rw[List.drop_eq_getElem_cons a,e,Tp.imps,List.take_succ_eq_append_getElem a,List.reverse_append,e]
 simp
def upTo (S:Seen) (l:List Bs) (i:Nat):Seen:=fun k=>if k∈l.take i then S k else none
theorem upTo_succ {l:List Bs}{x:Bs}{c:List Sy}(h:l[i]?=some x)(f:S x=some c):upTo S l (i+1)=fun k=>if k=x then some c else upTo S l i k:=by
 obtain⟨d,e⟩:=List.getElem?_eq_some_iff.1 h
 funext k
 unfold upTo
 rw[List.take_succ_eq_append_getElem d,e]
 by_cases a:k=x
 ·rw[if_pos (by simp[a]),if_pos a,a,f]
 ·rw[if_neg a]
  have:k∈l.take i++[x]↔k∈l.take i:=by simp[a]
  by_cases b:k∈l.take i
  ·rw[if_pos (this.2 b),if_pos b]
  ·rw[if_neg (fun q=>b (this.1 q)),if_neg b]
def thrownE (en:Nat):Ending:=.panicked [{ v:=.iface 36 (.int .i64 (en:Int)),recovered:=false }]
def ImpP (w:World) (own:Bs) (is:List Bs) (S:Seen) (e:Ending) (w':World):Prop:=Below w.heap.size w w'/\match Tp.imps own S [] is with
 |none=>∃ob n,e=.returned (.map (some ob))/\w.heap.size<=ob/\SeenM w' ob n (fun k=>if k∈is then S k else none)
 |some er=>e=thrownE er.1
def AskI (w:World) (inn:Nat) (ia:Option Addr) (is:List Bs):Prop :=
 ∀i,i<inn->∃(g:Nat) (x:Bs),ia=some ⟨g,0,none⟩/\g<w.heap.size/\w.cell? ⟨g,i,none⟩=some (.string (bs x))/\x.length<=1000000/\is[i]?=some x
theorem beq_bs (a b:Bs):((bs a).toList==(bs b).toList)=decide (a=b):=by rw[Bool.eq_iff_iff,decide_eq_true_iff,beq_iff_eq,zk,zk]
theorem xI {a gn pn D G F I C:Nat}{u E H B:Option Addr}{is:List Bs}{sv:Value}(hI:AskI w a u is)(hl:is.length=a)(c7:a<=1000)(P:SeenV w sv S) :
  Calls Tryz.prog 86 #[.agg #[.string (bs nm),.slice u a G,.slice E gn F,.slice H pn I,.slice B D C],sv] w (ImpP w nm is S):=by
 obtain⟨c,s⟩:∃c,c=w.alloc (.cells #[.string (bs nm),.slice u a G,.slice E gn F,.slice H pn I,.slice B D C] 66):=⟨_,rfl⟩
 have R:c.heap[w.heap.size]?=some (.cells #[.string (bs nm),.slice u a G,.slice E gn F,.slice H pn I,.slice B D C] 66 (0,0)):=by rw[s];exact zl _ _
 have W:c.heap.size=w.heap.size+1:=by rw[s];simp
 have M:Below w.heap.size w (c.alloc (.map #[] 0)):=by rw[s];exact(zb _ _).alloc (by simp) _
 have A:=MapV.made c
 rw[W]at A
 have a3:SeenM (c.alloc (.map #[] 0)) (w.heap.size+1) 0 (upTo S is 0):=⟨_,A,fun k=>by simp[upTo]⟩
 have J:(c.alloc (.map #[] 0)).heap[w.heap.size]?=some (.cells #[.string (bs nm),.slice u a G,.slice E gn F,.slice H pn I,.slice B D C] 66 (0,0)):=(Below.heap_alloc _ _ _ (by omega)).trans R
 obtain⟨k0,k1,k2,k3,k4⟩:=zW J
 have b7:=@run_makeMap Tryz.prog
 have HI:=zh hI
 have HL:=zh hl
 have HK:=zh J
 have b2:=zh a3
 have a9:=zh A.blk
 have K:=zh M
 have HS:Hid (SeenV (c.alloc (.map #[] 0)) sv S):=P.on M
 have b1:Hid (∀j,sv=.map (some j)->j<w.heap.size):=by
  rcases P with⟨rfl,_⟩|⟨j,n,rfl,q⟩
  ·intro j e;cases e
  ·intro d3 e;cases e;exact q.lt
 have c2:(a:Int)<=1000:=by omega
 clear hI hl J a3 A M P k0 k2 k3 k4 R
 go_enter Tryz.func86,Tryz.ntmps86
 go_wp2_with fail
 rw[<-s]
 have c5:w.heap.size+2<=(c.alloc (.map #[] 0)).heap.size:=by simp;omega
 generalize c.alloc (.map #[] 0)=w0 at *
 clear s W c b7
 go_loopg [16] a (fun k vi wr=>∃i:Nat,i<=a/\k=a-i/\vi=.int .i64 (i:Int)/\Hid (SeenM wr (w.heap.size+1) i (upTo S is i))/\Hid (Ext (w.heap.size+1) w0 wr)/\Hid (Tp.imps nm S [] is=impsAt nm S is i/\∀k∈is.take i,S k≠none))
 case atStart=>exact⟨0,by omega,by omega,rfl,b2,Ext.refl _ _,(uu _ _ _).symm,by simp⟩
 case round =>
  obtain⟨i,c6,h,rfl,z,f,d⟩:=hrel
  have c8:=f.out.size
  by_cases b6:i<a
  ·have a5:(i:Int)<(a:Int):=by omega
   obtain⟨g,x,b5,b4,c0,O,Q⟩:=HI.out i b6
   subst b5
   have c9:wr.cell? ⟨g,i,none⟩=some (.string (bs x)):=f.out.cell ((K.out.cell (p:=⟨g,i,none⟩) b4).trans c0) (by simp;omega)
   have d0:wr.cell? ⟨w.heap.size,0,none⟩=some (.string (bs nm)):=f.out.cell (zW HK.out).1 (by simp)
   have c3:g<wr.heap.size:=by omega
   have c4:w.heap.size<wr.heap.size:=by omega
   have HX:=zh Q
   have y:=zh (uw nm S Q)
   obtain⟨v1,o,⟨a1,n1,d1,b9⟩,_,_⟩:=z.out.look x O true
   subst b9
   have r:Hid (Below w.heap.size w wr):=K.out.trans (zT f.out (by omega) (by omega))
   have a0:(upTo S is i x).isSome=decide (x∈is.take i):=by
    unfold upTo
    by_cases b:x∈is.take i
    ·rw[if_pos b,decide_eq_true b]
     exact Option.isSome_iff_ne_none.2 (d.out.2 x b)
    ·rw[if_neg b,decide_eq_false b];rfl
   rw[a0]at o
   clear c0 Q a0
   by_cases b:x∈is.take i
   ·rw[decide_eq_true b]at o
    simp only[if_true]at o
    have t:Hid (Tp.imps nm S [] is=some (10,none)):=by unfold Hid;rw[d.out.1,y.out,if_pos (Or.inr b)]
    clear b
    go_wp2_with fail
    refine⟨rfl,r.out,?_⟩
    rw[t.out]
    rfl
   ·rw[decide_eq_false b]at o
    simp only[if_true]at o
    have T:=beq_bs x nm
    by_cases m:x=nm
    ·rw[decide_eq_true m]at T
     have t:Hid (Tp.imps nm S [] is=some (10,none)):=by unfold Hid;rw[d.out.1,y.out,if_pos (Or.inl m)]
     clear b m
     go_wp2_with fail
     refine⟨rfl,r.out,?_⟩
     rw[t.out]
     rfl
    ·rw[decide_eq_false m]at T
     have b0:Hid (SeenV wr sv S):=by
      have b8:=HS.out
      rcases b8 with q|⟨j,n,h1,h2⟩
      ·exact Or.inl q
      ·exact Or.inr ⟨j,n,h1,h2.ext f.out a9.out (by have:=b1.out j h1;omega)⟩
     obtain⟨v2,v,⟨a2,n2,d2,c1⟩,V,U⟩:=b0.out.look x O true
     subst c1
     have Z:=zh V
     have X:=zh U
     have Y:Hid (¬(x=nm\/x∈is.take i)):=fun e=>e.elim m b
     clear V U b m
     cases l:S x with
     |none =>
      rw[l]at v
      simp only[Option.isSome_none,if_true]at v
      have t:Hid (Tp.imps nm S [] is=some (8,none)):=by unfold Hid;rw[d.out.1,y.out,if_neg Y.out,if_pos l]
      clear l
      go_wp2_with fail
      refine⟨rfl,r.out,?_⟩
      rw[t.out]
      rfl
     |some ll =>
      rw[l]at v Z X
      simp only[Option.isSome_some,if_true]at v
      have L:=zh l
      clear l
      go_wp2_with (at_mapUpdate;refine kQ _ rfl _ _ _ rfl (w.heap.size+1) i (upTo S is i) z.out (by omega) x O (.slice a2 n2 d2) ll Z.out X.out rfl rfl rfl ?_;intro w3 q1 q2 q3)
      have b3:Hid (SeenM w3 (w.heap.size+1) (i+1) (upTo S is (i+1))):=by unfold Hid;rw[upTo_succ HX.out L.out];exact q1
      have a6:=zh (f.out.trans q2)
      have a4:Hid (Tp.imps nm S [] is=impsAt nm S is (i+1)/\∀k∈is.take (i+1),S k≠none):=by
       refine⟨by rw[d.out.1,y.out,if_neg Y.out,if_neg (by rw[L.out];simp)],fun k h=>?_⟩
       obtain⟨hi,e⟩:=List.getElem?_eq_some_iff.1 HX.out
       rw[List.take_succ_eq_append_getElem hi,e,List.mem_append]at h
       rcases h with h|h
       ·exact d.out.2 k h
       ·rw[List.mem_singleton.1 h,L.out];simp
      clear q1 q2 q3
      go_wp2_with fail
      go_roundg (a-(i+1))
      case measure=>omega
      case rel=>exact⟨i+1,by omega,rfl,by go_num,b3,a6,a4⟩
  ·have a5:¬(i:Int)<(a:Int):=by omega
   have N:i=is.length:=by have:=HL.out;omega
   have a7:Hid (Tp.imps nm S [] is=none):=by unfold Hid;rw[d.out.1,N,impsAt_all]
   have a8:Hid (SeenM wr (w.heap.size+1) i (fun k=>if k∈is then S k else none)):=by
    have:=z.out
    rw[N]at this ⊢
    unfold upTo at this
    rw[List.take_length]at this
    exact this
   have r:Hid (Below w.heap.size w wr):=K.out.trans (zT f.out (by omega) (by omega))
   clear z f d N
   go_wp2_with fail
   go_ret
   refine⟨r.out,?_⟩
   rw[a7.out]
   exact⟨_,_,rfl,by omega,a8.out⟩
theorem fidx_of (l:List Sy)(n:Bs):(∃(k:Nat) (a:k<l.length),fidx l n=(k:Int)/\Tp.findS l n=some l[k])\/fidx l n=-1/\Tp.findS l n=none:=by
 unfold fidx Tp.findS
 cases h:l.findIdx? (fun s=>s.1==n) with
 |some k =>
  left
  have b:=h
  rw[List.findIdx?_eq_some_iff_getElem]at b
  obtain⟨a,c,d⟩:=b
  refine⟨k,a,rfl,?_⟩
  rw[List.find?_eq_some_iff_getElem]
  exact⟨by simpa using c,k,a,rfl,fun j e=>by simpa using d j e⟩
 |none =>
  right
  refine⟨rfl,?_⟩
  rw[List.find?_eq_none]
  rw[List.findIdx?_eq_none_iff]at h
  intro x f
  simpa using h x f
def lookRes (r:Except Nat (Nat×Int)):Value:=match r with
 | .ok x=>.tuple #[.agg #[.int .i64 (x.1:Int),.int .i64 x.2],.int .i64 0]
 | .error e=>.tuple #[.agg #[.int .i64 0,.int .i64 0],.int .i64 (e:Int)]
def seenRes (o:Option (List Sy)) (nm:Bs):Except Nat (Nat×Int):=match o with
 |none=>.error 5
 |some l=>match Tp.findS l nm with
  |some s=>.ok s.2
  |none=>.error 7
theorem xK {K:Nat}(h:SeenM w K n S)(r nm:Bs)(X:r.length<=1000000) :
  Calls Tryz.prog 137 #[.map (some K),.string (bs r),.string (bs nm)] w fun e w'=>e=.returned (lookRes (seenRes (S r) nm))/\Below w.heap.size w w':=by
 have H:∀J,Below w.heap.size w (w.alloc J):=fun J=>zb _ _
 obtain⟨d,f⟩:∃d,d=w.alloc (.cells #[.int .i64 0,.int .i64 0] 221):=⟨_,rfl⟩
 have C:Below w.heap.size w d:=by rw[f];exact H _
 have j:d.heap[w.heap.size]?=some (.cells #[.int .i64 0,.int .i64 0] 221 (0,0)):=by rw[f];exact zl _ _
 have x:w.heap.size<d.heap.size:=by rw[f];simp
 obtain⟨v1,s,⟨a1,n1,d1,R⟩,i,u⟩:=(h.on C).look r X true
 subst R
 have E:d.cell? ⟨w.heap.size,0,none⟩=some (.int .i64 0):=(za j).trans rfl
 have c1:d.cell? ⟨w.heap.size,1,none⟩=some (.int .i64 0):=(za j).trans rfl
 have N:d.frozen? ⟨w.heap.size,0,none⟩=false:=zi j
 have O:d.frozen? ⟨w.heap.size,1,none⟩=false:=zi j
 have A:=zh C
 have F:=zh j
 clear H h C j
 cases y:S r with
 |none =>
  rw[y]at s
  simp only[Option.isSome_none,if_true]at s
  clear y i u
  go_enter Tryz.func137,Tryz.ntmps137
  go_upto_region 1 with fail
  rw[<-f]
  clear f
  go_wp2_with fail
  exact bodyPost_ret (v:=.tuple #[.agg #[.int .i64 0,.int .i64 0],.int .i64 5]) (by simp[results,Tryz.results137,go_sem,E,c1]) rfl ⟨rfl,A.out.trans (zu (zu (Below.refl _ _) zn 0 _) zn 1 _)⟩
 |some l =>
  rw[y]at s i u
  simp only[Option.isSome_some,if_true,Option.getD_some]at s i u
  clear y
  have I:=find_post i u nm
  have G:=zh i
  have t:=zh I
  obtain⟨a9,c9,T⟩:=i.len
  cases T
  clear i I
  rcases fidx_of l nm with⟨k,W,o,q⟩|⟨o,q⟩
  ·rw[o]at t
   have m:Hid (lookRes (seenRes (some l) nm)=.tuple #[.agg #[.int .i64 (l[k].2.1:Int),.int .i64 l[k].2.2],.int .i64 0]):=by unfold Hid seenRes;simp only;rw[q];rfl
   obtain⟨g,P,_,D,z⟩:=G.out.cell k W
   subst P
   have L:d.cell? ⟨g,k*3+1,none⟩=some (.int .i64 (l[k].2.1:Int)):=z 1 (by omega)
   have M:d.cell? ⟨g,k*3+2,none⟩=some (.int .i64 l[k].2.2):=z 2 (by omega)
   have U:=zh L
   have V:=zh M
   have a2:(k:Int)<(l.length:Int):=by omega
   have a0:(l.length:Int)<=1000:=by omega
   clear z o q L M
   rw[m.out]
   clear m
   generalize l[k].2.1=x1 at *
   generalize l[k].2.2=x2 at *
   generalize l.length=ln at *
   go_enter Tryz.func137,Tryz.ntmps137
   go_upto_region 1 with fail
   rw[<-f]
   clear f
   go_wp2_with fail
   refine t.out.mono ?_
   rintro e a⟨rfl,b⟩
   have c:=(b.block _ x).trans F.out
   have r1:a.cell? ⟨g,k*3+1,none⟩=some (.int .i64 (x1:Int)):=(b.cell (p:=⟨g,_,none⟩) D).trans U.out
   have r2:a.cell? ⟨g,k*3+2,none⟩=some (.int .i64 x2):=(b.cell (p:=⟨g,_,none⟩) D).trans V.out
   have Z:g<a.heap.size:=Nat.lt_of_lt_of_le D b.size
   have Q:w.heap.size<a.heap.size:=Nat.lt_of_lt_of_le x b.size
   have s0:a.cell? ⟨w.heap.size,0,none⟩=some (.int .i64 0):=(za c).trans rfl
   have s1:a.cell? ⟨w.heap.size,1,none⟩=some (.int .i64 0):=(za c).trans rfl
   have Y:a.frozen? ⟨w.heap.size,0,none⟩=false:=zi c
   have t1:a.frozen? ⟨w.heap.size,1,none⟩=false:=zi c
   have B:Hid (Below w.heap.size w a):=A.out.trans (b.mono (by omega))
   clear c b E c1 N O
   go_wp2_with fail
   go_region
   go_wp2_with fail
   exact bodyPost_ret (v:=.tuple #[.agg #[.int .i64 (x1:Int),.int .i64 x2],.int .i64 0]) (by simp[results,Tryz.results137,go_sem,s0,s1]) rfl ⟨rfl,B.out.trans (zu (zu ((Below.refl _ _).drew) zn 0 _) zn 1 _)⟩
  ·rw[o]at t
   have m:Hid (lookRes (seenRes (some l) nm)=.tuple #[.agg #[.int .i64 0,.int .i64 0],.int .i64 7]):=by unfold Hid seenRes;simp only;rw[q];rfl
   clear o q G
   rw[m.out]
   clear m
   generalize l.length=ln at *
   go_enter Tryz.func137,Tryz.ntmps137
   go_upto_region 1 with fail
   rw[<-f]
   clear f
   go_wp2_with fail
   refine t.out.mono ?_
   rintro e a⟨rfl,b⟩
   have c:=(b.block _ x).trans F.out
   have Q:w.heap.size<a.heap.size:=Nat.lt_of_lt_of_le x b.size
   have s0:a.cell? ⟨w.heap.size,0,none⟩=some (.int .i64 0):=(za c).trans rfl
   have s1:a.cell? ⟨w.heap.size,1,none⟩=some (.int .i64 0):=(za c).trans rfl
   have Y:a.frozen? ⟨w.heap.size,0,none⟩=false:=zi c
   have t1:a.frozen? ⟨w.heap.size,1,none⟩=false:=zi c
   have B:Hid (Below w.heap.size w a):=A.out.trans (b.mono (by omega))
   clear c b E c1 N O
   go_wp2_with fail
   exact bodyPost_ret (v:=.tuple #[.agg #[.int .i64 0,.int .i64 0],.int .i64 7]) (by simp[results,Tryz.results137,go_sem,s0,s1]) rfl ⟨rfl,B.out.trans (zu (zu (Below.refl _ _) zn 0 _) zn 1 _)⟩
abbrev Near:=List (Bs->Option (Nat×Int))
structure NearM (w:World) (sb:Nat) (fs:Near):Prop where
 lt:sb<w.heap.size
 c:∀i (h:i<fs.length),∃gb n,w.cell? ⟨sb,i,none⟩=some (.map (some gb))/\MapV w gb n (fun k=>(fs[i] k).map thV)
theorem NearM.on {w w':World}{a:Nat}{fs:Near}(h:NearM w a fs)(k:Below w.heap.size w w'):NearM w' a fs :=
 ⟨Nat.lt_of_lt_of_le h.lt k.size,fun i e=>by obtain⟨gb,n,d,b⟩:=h.c i e;exact⟨gb,n,(k.cell (p:=⟨a,i,none⟩) h.lt).trans d,b.on (k.block _ b.lt)⟩⟩
structure Fnd (w:World) (b:Nat) (S:Seen) (fs:Near):Prop where
 o:∃ob n,w.cell? ⟨b,0,none⟩=some (.map (some ob))/\SeenM w ob n S
 m:∃sb c,w.cell? ⟨b+1,0,none⟩=some (.slice (some ⟨sb,0,none⟩) fs.length c)/\NearM w sb fs
 l:b+1<w.heap.size
theorem Fnd.on {w w':World}{b:Nat}{S:Seen}{fs:Near}(h:Fnd w b S fs)(k:Below w.heap.size w w'):Fnd w' b S fs:=by
 obtain⟨i,n,d,e⟩:=h.o
 obtain⟨j,c,f,g⟩:=h.m
 have a:=h.l
 exact⟨⟨i,n,(k.cell (p:=⟨b,0,none⟩) (by simp;omega)).trans d,e.on k⟩,⟨j,c,(k.cell (p:=⟨b+1,0,none⟩) a).trans f,g.on k⟩,Nat.lt_of_lt_of_le a k.size⟩
def finderV (b:Nat):Value:=.func (.func 136) #[] #[.pointer (some ⟨b,0,none⟩),.pointer (some ⟨b+1,0,none⟩)]
theorem neq_bs (a:Bs):(bs a).toList.isEmpty=decide (a=[]):=by rw[zk];cases a<;>simp
variable {fs:Near}
theorem near_none (h:∀j (a:j<fs.length),fs[j] nm=none):fs.findSome? (fun f=>f nm)=none:=by
 rw[List.findSome?_eq_none_iff]
 intro f b
 obtain⟨j,a,e⟩:=List.mem_iff_getElem.1 b
 rw[<-e]
 exact h j a
theorem near_some {x:Nat×Int}(c:i<fs.length)(h:∀j (a:j<fs.length),j<i->fs[j] nm=none)(d:fs[i] nm=some x):fs.findSome? (fun f=>f nm)=some x:=by
 have e:fs=fs.take i++fs[i] :: fs.drop (i+1):=by rw[<-List.drop_eq_getElem_cons c,List.take_append_drop]
 rw[e,List.findSome?_append,List.findSome?_cons,d]
 have:(fs.take i).findSome? (fun f=>f nm)=none:=by
  rw[List.findSome?_eq_none_iff]
  intro f b
  obtain⟨j,a,e⟩:=List.mem_iff_getElem.1 b
  rw[List.length_take]at a
  rw[List.getElem_take]at e
  rw[<-e]
  exact h j (by omega) (by omega)
 rw[this]
 rfl
theorem vF (h:Fnd w b S fs)(b7:fs.length<=1000)(d nm:Bs)(hl:d.length<=1000000)(b1:nm.length<=1000000) :
  Calls Tryz.prog 136 #[.string (bs d),.string (bs nm),.pointer (some ⟨b,0,none⟩),.pointer (some ⟨b+1,0,none⟩)] w fun e w'=>e=.returned (lookRes (Tp.standV S fs d nm))/\Below w.heap.size w w':=by
 have a0:∀a7,Below w.heap.size w (w.alloc a7):=fun a7=>zb _ _
 obtain⟨a,y⟩:∃a,a=w.alloc (.cells #[.int .i64 0,.int .i64 0] 221):=⟨_,rfl⟩
 have M:Below w.heap.size w a:=by rw[y];exact a0 _
 have B:a.heap[w.heap.size]?=some (.cells #[.int .i64 0,.int .i64 0] 221 (0,0)):=by rw[y];exact zl _ _
 have R:w.heap.size<a.heap.size:=by rw[y];simp
 have U:=h.on M
 have b6:=U.l
 have b4:b<a.heap.size:=by omega
 have c0:a.cell? ⟨w.heap.size,0,none⟩=some (.int .i64 0):=(za B).trans rfl
 have c1:a.cell? ⟨w.heap.size,1,none⟩=some (.int .i64 0):=(za B).trans rfl
 have z0:a.frozen? ⟨w.heap.size,0,none⟩=false:=zi B
 have z1:a.frozen? ⟨w.heap.size,1,none⟩=false:=zi B
 have W:=zh M
 have Y:=zh B
 obtain⟨E,on,b2,Q⟩:=U.o
 obtain⟨V,sc,a4,P⟩:=U.m
 have a5:=neq_bs d
 clear a0 h M B
 by_cases C:d=[]
 ·rw[decide_eq_true C]at a5
  have u:Hid (Tp.standV S fs d nm=match fs.findSome? (fun f=>f nm) with|some x=>.ok x|none=>.error 7):=by unfold Hid Tp.standV;rw[if_neg (by simp[C])];cases fs.findSome? (fun f=>f nm)<;>rfl
  clear C b2 Q
  have Z:=zh P
  have a8:(fs.length:Int)<=1000:=by omega
  obtain⟨s,O⟩:∃s,s=fs.length:=⟨_,rfl⟩
  have X:=zh O
  rw[<-O]at a4 a8
  clear P O
  go_enter Tryz.func136,Tryz.ntmps136
  go_upto_region 1 with fail
  rw[<-y]
  clear y
  go_wp2_with fail
  go_loopg [22] s (fun k vi wr=>∃i:Nat,i<=s/\k=s-i/\vi=.int .i64 (i:Int)/\Hid (Below a.heap.size a wr)/\Hid (∀j (z:j<fs.length),j<i->fs[j] nm=none))
  case atStart=>exact⟨0,by omega,by omega,rfl,Below.refl _ _,fun j _ z=>absurd z (by omega)⟩
  case round =>
   obtain⟨i,b8,hk,rfl,D,T⟩:=hrel
   have b3:=D.out.size
   have a1:=D.out.block _ R
   have g:=a1.trans Y.out
   have s0:wr.cell? ⟨w.heap.size,0,none⟩=some (.int .i64 0):=(za g).trans rfl
   have s1:wr.cell? ⟨w.heap.size,1,none⟩=some (.int .i64 0):=(za g).trans rfl
   have t0:wr.frozen? ⟨w.heap.size,0,none⟩=false:=zi g
   have t1:wr.frozen? ⟨w.heap.size,1,none⟩=false:=zi g
   have a6:w.heap.size<wr.heap.size:=by omega
   have c3:wr.heap.size≠w.heap.size:=by omega
   have K:Hid (Below w.heap.size w wr):=W.out.trans (D.out.mono (by omega))
   clear a1 g
   by_cases c2:i<s
   ·have a9:(i:Int)<(s:Int):=by omega
    have a3:i<fs.length:=by have:=X.out;omega
    obtain⟨gb,gn,a2,N⟩:=Z.out.c i a3
    have kc:wr.cell? ⟨V,i,none⟩=some (.map (some gb)):=(D.out.cell (p:=⟨V,i,none⟩) Z.out.lt).trans a2
    have b5:V<wr.heap.size:=zg kc
    have H:=(N.on (D.out.block _ N.lt)).look (t:=162) Tryz.underlying162 (zeroTh _) nm b1 true
    clear a2 N
    cases A:fs[i] nm with
    |none =>
     rw[A]at H
     simp only[Option.map_none,Option.getD_none,Option.isSome_none,if_true]at H
     have b0:Hid (∀j (z:j<fs.length),j<i+1->fs[j] nm=none):=fun j z b9=>by
      rcases Nat.lt_or_ge j i with q|q
      ·exact T.out j z q
      ·have:j=i:=by omega
       subst this
       exact A
     have G:Hid (∀E,Below a.heap.size a (wr.alloc E)):=fun E=>D.out.alloc b3 _
     clear A
     go_wp2_with fail
     go_roundg (s-(i+1))
     case measure=>omega
     case rel=>exact⟨i+1,by omega,rfl,by go_num,G.out _,b0⟩
    |some x =>
     obtain⟨J,x2⟩:=x
     rw[A]at H
     simp only[Option.map_some,Option.getD_some,Option.isSome_some,if_true,thV]at H
     have n:=zh (near_some a3 T.out A)
     have L:Hid (lookRes (Tp.standV S fs d nm)=.tuple #[.agg #[.int .i64 (J:Int),.int .i64 x2],.int .i64 0]):=by unfold Hid;rw[u.out,n.out];rfl
     have G:Hid (∀E,Below w.heap.size w (wr.alloc E)):=fun E=>K.out.alloc (by omega) _
     clear A u n
     go_wp2_with fail
     exact bodyPost_ret (v:=.tuple #[.agg #[.int .i64 (J:Int),.int .i64 x2],.int .i64 0]) (by simp[results,Tryz.results136,go_sem,s0,s1,a6]) rfl ⟨by rw[L.out],(zu (zu K.out zn 0 _) zn 1 _).alloc (by simp;omega) _⟩
   ·have a9:¬(i:Int)<(s:Int):=by omega
    have n:Hid (fs.findSome? (fun f=>f nm)=none):=near_none (fun j z=>T.out j z (by have:=X.out;omega))
    have L:Hid (lookRes (Tp.standV S fs d nm)=.tuple #[.agg #[.int .i64 0,.int .i64 0],.int .i64 7]):=by unfold Hid;rw[u.out,n.out];rfl
    clear u n
    go_wp2_with fail
    exact bodyPost_ret (v:=.tuple #[.agg #[.int .i64 0,.int .i64 0],.int .i64 7]) (by simp[results,Tryz.results136,go_sem,s0,s1]) rfl ⟨by rw[L.out],zu (zu K.out zn 0 _) zn 1 _⟩
 ·rw[decide_eq_false C]at a5
  have u:Hid (Tp.standV S fs d nm=seenRes (S d) nm):=by unfold Hid Tp.standV;rw[if_pos C];unfold seenRes;cases S d<;>rfl
  rw[u.out]
  clear C a4 P u
  have n:=zh (xK Q d nm hl)
  clear Q
  obtain⟨r,hr⟩:∃r,r=seenRes (S d) nm:=⟨_,rfl⟩
  rw[<-hr]at n ⊢
  clear hr
  go_enter Tryz.func136,Tryz.ntmps136
  go_upto_region 1 with fail
  rw[<-y]
  clear y
  go_wp2_with fail
  refine n.out.mono ?_
  rintro e F⟨rfl,I⟩
  have g:=(I.block _ R).trans Y.out
  have a6:w.heap.size<F.heap.size:=Nat.lt_of_lt_of_le R I.size
  have s0:F.cell? ⟨w.heap.size,0,none⟩=some (.int .i64 0):=(za g).trans rfl
  have s1:F.cell? ⟨w.heap.size,1,none⟩=some (.int .i64 0):=(za g).trans rfl
  have t0:F.frozen? ⟨w.heap.size,0,none⟩=false:=zi g
  have t1:F.frozen? ⟨w.heap.size,1,none⟩=false:=zi g
  have G:Hid (Below w.heap.size w F):=W.out.trans (I.mono (by omega))
  clear g I c0 c1 z0 z1 n
  cases r with
  |ok x =>
   obtain⟨J,x2⟩:=x
   simp only[lookRes]
   go_wp2_with fail
   exact bodyPost_ret (v:=.tuple #[.agg #[.int .i64 (J:Int),.int .i64 x2],.int .i64 0]) (by simp[results,Tryz.results136,go_sem,s0,s1]) rfl ⟨rfl,zu (zu G.out zn 0 _) zn 1 _⟩
  |error er =>
   simp only[lookRes]
   go_wp2_with fail
   exact bodyPost_ret (v:=.tuple #[.agg #[.int .i64 0,.int .i64 0],.int .i64 (er:Int)]) (by simp[results,Tryz.results136,go_sem,s0,s1]) rfl ⟨rfl,zu (zu G.out zn 0 _) zn 1 _⟩
theorem xh (w:World)(b sv:Value)(f:∃d,b=.map (some d))(g:∃a n c,sv=.slice a n c) :
  Calls Tryz.prog 89 #[b,sv] w fun e w'=>e=.returned (finderV w.heap.size)/\w'=(w.alloc (.cells #[b] 100)).alloc (.cells #[sv] 224):=by
 obtain⟨d,rfl⟩:=f
 obtain⟨a,n,c,rfl⟩:=g
 have h:=zm
 go_enter Tryz.func89,Tryz.ntmps89
 go_wp2_with fail
 go_ret
 exact⟨rfl,rfl⟩
end Go.Proofs.YtbkndnmglhghlaaGreatDoor
