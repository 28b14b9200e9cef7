import Derived.Test.YtibncofnnlbmcaaGreatDoorKMf
import Derived.Lib.ConvBytes
set_option maxRecDepth 100000
set_option maxHeartbeats 4000000
namespace Go.Proofs.YtibncofnnlbmcaaGreatDoor
open Go.RowKit Go.Sort
open Tp (Sy)
theorem conv_buf {kk:Nat->Prop}{w:World}{B:Nat}{v:Value}{l:List UInt8}(h:Buf kk w B v l):(convert 81 9 v).run Tryz.prog w=.ok (.string (bs l)) w:=by
 rcases h.own.2 with⟨rfl,a⟩|⟨g,cap,cur,rfl,a,h3,h4,h5,h6,h7⟩
 ·have e:l=[]:=List.eq_nil_of_length_eq_zero a
  subst e
  rw[run_convert_bytes_string w 81 9 5 none 0 0 Tryz.underlying81 Tryz.underlying5 Tryz.underlying9]
  rfl
 ·refine run_convert_bytes_back w 81 9 5 ⟨g,0,none⟩ cap l Tryz.underlying81 Tryz.underlying5 Tryz.underlying9 (fun j b=>?_)
  have:=h.own.cells (g:=g) rfl j (.int .u8 (l[j].toNat:Int)) (by rw[u8s,List.getElem?_map,List.getElem?_eq_getElem b];rfl)
  simpa using this
theorem lineOf_len (s:Sy)(h:s.2.1<100/\s.2.2<100/\-1<=s.2.2/\s.1.length<=100):(Tp.lineOf s).length<=200:=by
 have hd:∀n,n<100->(Tp.dec n).length<=2:=by
  intro n a
  rw[Tp.dec]
  split
  ·simp
  ·rw[Tp.dec_d (show n / 10<10 by omega)];simp
 unfold Tp.lineOf
 split
 ·have:=hd s.2.2.toNat (by omega)
  simp[Tp.wordsL,Tp.wProc];omega
 ·split
  ·have:=hd s.2.1 h.1
   simp[Tp.wordsL,Tp.wArr];omega
  ·simp[Tp.wordsL,Tp.wInt];omega
theorem need_at (l:List Sy)(n:List UInt8):(∃(k:Nat) (a:k<l.length),fidx l n=(k:Int)/\Tp.needS l n=Tp.lineOf l[k])\/fidx l n=-1/\Tp.needS l n=Tp.wordsL [110,111,110,101] [n]:=by
 unfold fidx Tp.needS Tp.findS
 cases h:l.findIdx? (fun s=>s.1==n) with
 |some k =>
  left
  have b:=h
  rw[List.findIdx?_eq_some_iff_getElem]at b
  obtain⟨a,c,d⟩:=b
  refine⟨k,a,rfl,?_⟩
  have:l.find? (fun s=>s.1==n)=some l[k]:=by
   rw[List.find?_eq_some_iff_getElem]
   exact⟨by simpa using c,k,a,rfl,fun j e=>by simpa using d j e⟩
  rw[this]
 |none =>
  right
  have:l.find? (fun s=>s.1==n)=none:=by
   rw[List.find?_eq_none]
   rw[List.findIdx?_eq_none_iff]at h
   intro x f
   simpa using h x f
  rw[this]
  exact⟨rfl,rfl⟩
theorem need_len (l:List Sy)(n:List UInt8)(h:AllSmall l)(b:n.length<=100):(Tp.needS l n).length<=200:=by
 rcases need_at l n with⟨k,a,_,e⟩|⟨_,e⟩
 ·rw[e];exact lineOf_len _ (h _ (List.getElem_mem a))
 ·rw[e];simp[Tp.wordsL];omega
theorem needs_len (l:List Sy)(ns:List (List UInt8))(h:AllSmall l)(a:∀n∈ns,n.length<=100):(Tp.needsS l ns).length<=200*ns.length:=by
 induction ns with
 |nil=>simp[Tp.needsS]
 |cons n ns ih =>
  have d:=need_len l n h (a n (by simp))
  have b:=ih (fun x c=>a x (by simp[c]))
  simp only[Tp.needsS,List.map_cons,List.flatten_cons,List.length_append,List.length_cons]at b ⊢
  omega
theorem xv {w:World}{B:Nat}{v:Value}{l:List Sy}(h:SL w B v l)(hs:AllSmall l)(hn:l.length<=1000){ns:List (List UInt8)}{na:Option Addr}{nc:Nat}(a7:StrsAt w ns na)(a6:∀n∈ns,n.length<=100)(c9:ns.length<=9000) :
  Calls Tryz.prog 92 #[v,.slice na ns.length nc] w fun e w'=>e=.returned (.string (bs (Tp.needsS l ns)))/\Below w.heap.size w w':=by
 obtain⟨a,c,rfl⟩:=h.len
 have b1:(ns.length:Int)<=9000:=by omega
 have a9:(l.length:Int)<=1000:=by omega
 have b7:=zh h
 have HS:=zh hs
 have b6:=zh a7
 have b5:=zh a6
 have HF:Hid (∀W,Below w.heap.size w W->∀n,Calls Tryz.prog 127 #[.slice a l.length c,.string (bs n)] W fun e w'=>e=.returned (.int .i64 (fidx l n))/\Below W.heap.size W w'):=fun W hW n=>uj (h.on hW) hn n
 obtain⟨d,N⟩:∃d,d=ns.length:=⟨_,rfl⟩
 rw[<-N]at b1 ⊢
 have a2:=zh N
 obtain⟨S,L⟩:∃S,S=l.length:=⟨_,rfl⟩
 rw[<-L]at a9 HF ⊢
 have b4:=zh L
 clear h hs a7 a6 N L
 go_enter Tryz.func92,Tryz.ntmps92
 go_wp2_with fail
 go_loopg [5,11] d (fun k v vi wr=>∃i:Nat,i<=d/\k=d-i/\vi=.int .i64 (i:Int)/\Hid (Buf (fun _=>False) wr w.heap.size v (Tp.needsS l (ns.take i)))/\Hid (Bw (fun _=>False) w.heap.size w wr))
 case atStart=>exact⟨0,by omega,by omega,rfl,Buf.nil _ _ zn (fun k hk=>hk.elim),Bw.refl _ _⟩
 case round =>
  obtain⟨i,c7,hk,rfl,D,t⟩:=hrel
  by_cases c8:i<d
  ·have b0:(i:Int)<(d:Int):=by omega
   have a4:i<ns.length:=by have:=a2.out;omega
   obtain⟨b,o,rfl,c0,V⟩:=b6.out.c i a4
   have kc:wr.cell? ⟨b,o+i,none⟩=some (.string (bs ns[i])):=(t.out.cell (p:=⟨b,o+i,none⟩) c0).trans V
   have c5:b<wr.heap.size:=by have:=t.out.size;omega
   have z:Tp.needsS l (ns.take (i+1))=Tp.needsS l (ns.take i)++Tp.needS l ns[i]:=by
    unfold Tp.needsS
    rw[List.take_succ_eq_append_getElem a4,List.map_append,List.flatten_append];simp
   have a8:=needs_len l (ns.take (i+1)) HS.out (fun x hx=>b5.out x (List.mem_of_mem_take hx))
   have G:(Tp.needsS l (ns.take i)++Tp.needS l ns[i]).length<=1000000000:=by rw[<-z];simp only[List.length_take]at a8;omega
   obtain⟨m,hm⟩:∃m,m=Tp.needsS l (ns.take i):=⟨_,rfl⟩
   obtain⟨F,M⟩:∃F,F=Tp.needsS l (ns.take (i+1)):=⟨_,rfl⟩
   have q:=D.out
   rw[<-hm]at q G z
   rw[<-M]at z
   obtain⟨P,c1,R⟩:=zw q.1
   subst R
   have b3:=zh (HF.out wr t.out.toBelow ns[i])
   have X:=zh q
   have a0:=zh M
   have Y:=zh z
   have Z:=zh G
   clear q D V a8 hm M z G
   generalize ns[i]=nm at *
   go_wp2_with fail
   refine b3.out.mono ?_
   rintro e f⟨rfl,Q⟩
   have H:=zh (X.out.below Q)
   have A:=zh (t.out.trans (Bw.of Q X.out.2))
   clear Q kc
   rcases need_at l nm with⟨k,a5,K,s⟩|⟨K,s⟩
   ·obtain⟨g,b9,_,c2,a3⟩:=b7.out.cell k a5
    subst b9
    have E:=fun j (hj:j<3)=>(A.out.cell (p:=⟨g,k*3+j,none⟩) c2).trans (a3 j hj)
    have d0:f.cell? ⟨g,k*3,none⟩=some (.string (bs l[k].1)):=E 0 (by omega)
    have d1:f.cell? ⟨g,k*3+1,none⟩=some (.int .i64 (l[k].2.1:Int)):=E 1 (by omega)
    have d2:f.cell? ⟨g,k*3+2,none⟩=some (.int .i64 l[k].2.2):=E 2 (by omega)
    have c4:g<f.heap.size:=by have:=A.out.size;omega
    have C:=HS.out l[k] (List.getElem_mem a5)
    have c3:(k:Int)<(S:Int):=by have:=b4.out;omega
    have r:=qB l[k] C.1 C.2.1 C.2.2.1 H.out (by rw[<-s];exact Z.out)
    rw[<-s,<-Y.out]at r
    have O:Hid (Calls Tryz.prog 128 #[.slice P m.length c1,.agg #[.string (bs l[k].1),.int .i64 (l[k].2.1:Int),.int .i64 l[k].2.2]] f (Wrote (fun _=>False) w.heap.size f F)):=r
    clear r s E a3 C
    generalize l[k].1=x0 at *
    generalize l[k].2.1=x1 at *
    generalize l[k].2.2=x2 at *
    rw[K]
    go_wp2_with fail
    refine O.out.mono ?_
    rintro e U⟨T,rfl,u,y⟩
    have I:Hid (Buf (fun _=>False) U w.heap.size T (Tp.needsS l (ns.take (i+1)))):=by rw[<-a0.out];exact u
    have J:=zh (A.out.trans y)
    clear u y
    go_wp2_with fail
    go_roundg (d-(i+1))
    case measure=>omega
    case rel=>exact⟨i+1,by omega,rfl,by go_num,I,J⟩
   ·have r:=yB (H.out.below ((Below.refl _ _).alloc zn (.cells #[.string (bs nm)] 9))) [110,111,110,101] [nm] f.heap.size 1 (zo _ _) (by simp) (by rw[<-s];exact Z.out)
    rw[<-s,<-Y.out]at r
    have O:Hid (Calls Tryz.prog 129 #[.slice P m.length c1,.string ⟨#[110,111,110,101]⟩,.slice (some ⟨f.heap.size,0,none⟩) 1 1] (f.alloc (.cells #[.string (bs nm)] 9)) (Wrote (fun _=>False) w.heap.size (f.alloc (.cells #[.string (bs nm)] 9)) F)):=r
    have b8:=zh (A.out.trans (Bw.of ((Below.refl _ _).alloc zn (.cells #[.string (bs nm)] 9)) H.out.2))
    clear r s
    rw[K]
    go_wp2_with fail
    refine O.out.mono ?_
    rintro e U⟨T,rfl,u,y⟩
    have I:Hid (Buf (fun _=>False) U w.heap.size T (Tp.needsS l (ns.take (i+1)))):=by rw[<-a0.out];exact u
    have J:=zh (b8.out.trans y)
    clear u y
    go_wp2_with fail
    go_roundg (d-(i+1))
    case measure=>omega
    case rel=>exact⟨i+1,by omega,rfl,by go_num,I,J⟩
  ·have b0:¬(i:Int)<(d:Int):=by omega
   have e:i=ns.length:=by have:=a2.out;omega
   have q:=D.out
   rw[e,List.take_length]at q
   have c6:=conv_buf q
   obtain⟨P,c1,R⟩:=zw q.1
   subst R
   have b2:=zh t.out.toBelow
   clear q D t
   go_wp2_with fail
   go_ret
   exact⟨rfl,b2.out⟩
end Go.Proofs.YtibncofnnlbmcaaGreatDoor
