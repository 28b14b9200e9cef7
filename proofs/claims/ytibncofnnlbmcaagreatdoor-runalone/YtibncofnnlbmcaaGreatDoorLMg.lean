import Derived.Test.YtibncofnnlbmcaaGreatDoorLMf
import Derived.Lib.ConvBytes
set_option maxRecDepth 100000
set_option maxHeartbeats 4000000
namespace Go.Proofs.YtibncofnnlbmcaaGreatDoor
open Go.RowKit Go.Sort
open Tp (Sy)
theorem conv_buf {kk:Nat->Prop}{w:World}{B:Nat}{v:Value}{l:List UInt8}(h:Buf kk w B v l):(convert 81 9 v).run Tryz.prog w=.ok (.string (bs l)) w:=by
 rcases h.own.2 with⟨rfl,a⟩|⟨g,cap,cur,rfl,a,h3,h4,h5,h6,h7⟩
 ·have e:l=[]:=List.eq_nil_of_length_eq_zero a
  subst e
  rw[run_convert_bytes_string w 81 9 5 none 0 0 Tryz.underlying81 Tryz.underlying5 Tryz.underlying9]
  rfl
 ·refine run_convert_bytes_back w 81 9 5 ⟨g,0,none⟩ cap l Tryz.underlying81 Tryz.underlying5 Tryz.underlying9 (fun j b=>?_)
  have:=h.own.cells (g:=g) rfl j (.int .u8 (l[j].toNat:Int)) (by rw[u8s,List.getElem?_map,List.getElem?_eq_getElem b];rfl)
  simpa using this
theorem lineOf_len (s:Sy)(h:s.2.1<100/\s.2.2<100/\-1<=s.2.2/\s.1.length<=100):(Tp.lineOf s).length<=200:=by
 have hd:∀n,n<100->(Tp.dec n).length<=2:=by
  intro n a
  rw[Tp.dec]
  split
  ·simp
  ·rw[Tp.dec_d (show n / 10<10 by omega)];simp
 unfold Tp.lineOf
 split
 ·have:=hd s.2.2.toNat (by omega)
  simp[Tp.wordsL,Tp.wProc];omega
 ·split
  ·have:=hd s.2.1 h.1
   simp[Tp.wordsL,Tp.wArr];omega
  ·simp[Tp.wordsL,Tp.wInt];omega
theorem need_at (l:List Sy)(n:List UInt8):(∃(k:Nat) (a:k<l.length),fidx l n=(k:Int)/\Tp.needS l n=Tp.lineOf l[k])\/fidx l n=-1/\Tp.needS l n=Tp.wordsL [110,111,110,101] [n]:=by
 unfold fidx Tp.needS Tp.findS
 cases h:l.findIdx? (fun s=>s.1==n) with
 |some k =>
  left
  have b:=h
  rw[List.findIdx?_eq_some_iff_getElem]at b
  obtain⟨a,e,c⟩:=b
  refine⟨k,a,rfl,?_⟩
  have:l.find? (fun s=>s.1==n)=some l[k]:=by
   rw[List.find?_eq_some_iff_getElem]
   exact⟨by simpa using e,k,a,rfl,fun j f=>by simpa using c j f⟩
  rw[this]
 |none =>
  right
  have:l.find? (fun s=>s.1==n)=none:=by
   rw[List.find?_eq_none]
   rw[List.findIdx?_eq_none_iff]at h
   intro x d
   simpa using h x d
  rw[this]
  exact⟨rfl,rfl⟩
theorem need_len (l:List Sy)(n:List UInt8)(h:AllSmall l)(b:n.length<=100):(Tp.needS l n).length<=200:=by
 rcases need_at l n with⟨k,a,_,e⟩|⟨_,e⟩
 ·rw[e];exact lineOf_len _ (h _ (List.getElem_mem a))
 ·rw[e];simp[Tp.wordsL];omega
theorem needs_len (l:List Sy)(ns:List (List UInt8))(h:AllSmall l)(a:∀n∈ns,n.length<=100):(Tp.needsS l ns).length<=200*ns.length:=by
 induction ns with
 |nil=>simp[Tp.needsS]
 |cons n ns ih =>
  have d:=need_len l n h (a n (by simp))
  have c:=ih (fun x b=>a x (by simp[b]))
  simp only[Tp.needsS,List.map_cons,List.flatten_cons,List.length_append,List.length_cons]at c ⊢
  omega
theorem xg {w:World}{B:Nat}{v:Value}{l:List Sy}(h:SL w B v l)(hs:AllSmall l)(hn:l.length<=1000){ns:List (List UInt8)}{na:Option Addr}{nc:Nat}(a4:StrsAt w ns na)(a3:∀n∈ns,n.length<=100)(d1:ns.length<=1000) :
  Calls Tryz.prog 92 #[v,.slice na ns.length nc] w fun e w'=>e=.returned (.string (bs (Tp.needsS l ns)))/\Below w.heap.size w w':=by
 obtain⟨a,c,rfl⟩:=h.len
 have b0:(ns.length:Int)<=1000:=by omega
 have b1:(l.length:Int)<=1000:=by omega
 have b3:=zh h
 have HS:=zh hs
 have b9:=zh a4
 have c0:=zh a3
 have HF:Hid (∀W,Below w.heap.size w W->∀n,Calls Tryz.prog 127 #[.slice a l.length c,.string (bs n)] W fun e w'=>e=.returned (.int .i64 (fidx l n))/\Below W.heap.size W w'):=fun W hW n=>vW (h.on hW) hn n
 obtain⟨d,H⟩:∃d,d=ns.length:=⟨_,rfl⟩
 rw[<-H]at b0 ⊢
 have a8:=zh H
 obtain⟨Q,K⟩:∃Q,Q=l.length:=⟨_,rfl⟩
 rw[<-K]at b1 HF ⊢
 have b7:=zh K
 clear h hs a4 a3 H K
 go_enter Tryz.func92,Tryz.ntmps92
 go_wp2_with fail
 go_loopg [5,11] d (fun k v vi wr=>∃i:Nat,i<=d/\k=d-i/\vi=.int .i64 (i:Int)/\Hid (Buf (fun _=>False) wr w.heap.size v (Tp.needsS l (ns.take i)))/\Hid (Bw (fun _=>False) w.heap.size w wr))
 case atStart=>exact⟨0,by omega,by omega,rfl,Buf.nil _ _ zn (fun k hk=>hk.elim),Bw.refl _ _⟩
 case round =>
  obtain⟨i,c9,hk,rfl,E,t⟩:=hrel
  by_cases c7:i<d
  ·have a9:(i:Int)<(d:Int):=by omega
   have a6:i<ns.length:=by have:=a8.out;omega
   obtain⟨b,o,rfl,c2,V⟩:=b9.out.c i a6
   have kc:wr.cell? ⟨b,o+i,none⟩=some (.string (bs ns[i])):=(t.out.cell (p:=⟨b,o+i,none⟩) c2).trans V
   have c5:b<wr.heap.size:=by have:=t.out.size;omega
   have z:Tp.needsS l (ns.take (i+1))=Tp.needsS l (ns.take i)++Tp.needS l ns[i]:=by
    unfold Tp.needsS
    rw[List.take_succ_eq_append_getElem a6,List.map_append,List.flatten_append];simp
   have a7:=needs_len l (ns.take (i+1)) HS.out (fun x hx=>c0.out x (List.mem_of_mem_take hx))
   have G:(Tp.needsS l (ns.take i)++Tp.needS l ns[i]).length<=1000000000:=by rw[<-z];simp only[List.length_take]at a7;omega
   obtain⟨m,hm⟩:∃m,m=Tp.needsS l (ns.take i):=⟨_,rfl⟩
   obtain⟨D,N⟩:∃D,D=Tp.needsS l (ns.take (i+1)):=⟨_,rfl⟩
   have q:=E.out
   rw[<-hm]at q G z
   rw[<-N]at z
   obtain⟨U,c1,R⟩:=zw q.1
   subst R
   have b5:=zh (HF.out wr t.out.toBelow ns[i])
   have a2:=zh q
   have a0:=zh N
   have Z:=zh z
   have X:=zh G
   clear q E V a7 hm N z G
   generalize ns[i]=nm at *
   go_wp2_with fail
   refine b5.out.mono ?_
   rintro e f⟨rfl,S⟩
   have I:=zh (a2.out.below S)
   have C:=zh (t.out.trans (Bw.of S a2.out.2))
   clear S kc
   rcases need_at l nm with⟨k,a5,L,s⟩|⟨L,s⟩
   ·obtain⟨g,b4,_,b8,Y⟩:=b3.out.cell k a5
    subst b4
    have F:=fun j (hj:j<3)=>(C.out.cell (p:=⟨g,k*3+j,none⟩) b8).trans (Y j hj)
    have c8:f.cell? ⟨g,k*3,none⟩=some (.string (bs l[k].1)):=F 0 (by omega)
    have d0:f.cell? ⟨g,k*3+1,none⟩=some (.int .i64 (l[k].2.1:Int)):=F 1 (by omega)
    have d2:f.cell? ⟨g,k*3+2,none⟩=some (.int .i64 l[k].2.2):=F 2 (by omega)
    have c3:g<f.heap.size:=by have:=C.out.size;omega
    have A:=HS.out l[k] (List.getElem_mem a5)
    have c4:(k:Int)<(Q:Int):=by have:=b7.out;omega
    have r:=qi l[k] A.1 A.2.1 A.2.2.1 I.out (by rw[<-s];exact X.out)
    rw[<-s,<-Z.out]at r
    have O:Hid (Calls Tryz.prog 128 #[.slice U m.length c1,.agg #[.string (bs l[k].1),.int .i64 (l[k].2.1:Int),.int .i64 l[k].2.2]] f (Wrote (fun _=>False) w.heap.size f D)):=r
    clear r s F Y A
    generalize l[k].1=x0 at *
    generalize l[k].2.1=x1 at *
    generalize l[k].2.2=x2 at *
    rw[L]
    go_wp2_with fail
    refine O.out.mono ?_
    rintro e T⟨P,rfl,y,u⟩
    have M:Hid (Buf (fun _=>False) T w.heap.size P (Tp.needsS l (ns.take (i+1)))):=by rw[<-a0.out];exact y
    have J:=zh (C.out.trans u)
    clear y u
    go_wp2_with fail
    go_roundg (d-(i+1))
    case measure=>omega
    case rel=>exact⟨i+1,by omega,rfl,by go_num,M,J⟩
   ·have r:=yA (I.out.below ((Below.refl _ _).alloc zn (.cells #[.string (bs nm)] 9))) [110,111,110,101] [nm] f.heap.size 1 (zo _ _) (by simp) (by rw[<-s];exact X.out)
    rw[<-s,<-Z.out]at r
    have O:Hid (Calls Tryz.prog 129 #[.slice U m.length c1,.string ⟨#[110,111,110,101]⟩,.slice (some ⟨f.heap.size,0,none⟩) 1 1] (f.alloc (.cells #[.string (bs nm)] 9)) (Wrote (fun _=>False) w.heap.size (f.alloc (.cells #[.string (bs nm)] 9)) D)):=r
    have b6:=zh (C.out.trans (Bw.of ((Below.refl _ _).alloc zn (.cells #[.string (bs nm)] 9)) I.out.2))
    clear r s
    rw[L]
    go_wp2_with fail
    refine O.out.mono ?_
    rintro e T⟨P,rfl,y,u⟩
    have M:Hid (Buf (fun _=>False) T w.heap.size P (Tp.needsS l (ns.take (i+1)))):=by rw[<-a0.out];exact y
    have J:=zh (b6.out.trans u)
    clear y u
    go_wp2_with fail
    go_roundg (d-(i+1))
    case measure=>omega
    case rel=>exact⟨i+1,by omega,rfl,by go_num,M,J⟩
  ·have a9:¬(i:Int)<(d:Int):=by omega
   have e:i=ns.length:=by have:=a8.out;omega
   have q:=E.out
   rw[e,List.take_length]at q
   have c6:=conv_buf q
   obtain⟨U,c1,R⟩:=zw q.1
   subst R
   have b2:=zh t.out.toBelow
   clear q E t
   go_wp2_with fail
   go_ret
   exact⟨rfl,b2.out⟩
end Go.Proofs.YtibncofnnlbmcaaGreatDoor
