import Derived.Test.YthnoedjbhbkdeaaGreatDoorKWk
set_option maxRecDepth 100000
set_option maxHeartbeats 4000000
namespace Go.Proofs.YthnoedjbhbkdeaaGreatDoor
open Go.RowKit
variable {kk:Nat->Prop}
open Tp (X S)
theorem addAll1 {w:World}{B:Nat}{v:Value}{l:List UInt8}(h:Buf kk w B v l) (s:List UInt8) (hl:(l++s).length<=1000000000) :
  Calls Tryz.prog 102 #[v,.slice (some ⟨w.heap.size,0,none⟩) 1 1] (w.alloc (.cells #[.string (bs s)] 9)) (Wrote kk B w (l++s)):=by
 have hal:Below w.heap.size w (w.alloc (.cells #[.string (bs s)] 9)):=zb _ _
 have:=yF (h.below hal) [s] w.heap.size 1 (zu _ _) (by simp) (by simpa using hl)
 refine this.mono ?_
 rintro e w' ⟨v',h1,h2,h3⟩
 exact⟨v',h1,by simpa using h2,(Bw.of hal h.2).trans h3⟩
structure SV (w:World) (B:Nat) (s:S) (ia va ta ea:Option Addr) (tc ec:Nat):Prop where
 ix:s.index=[]/\ia=none\/∃ x bx,s.index=[x]/\ia=some ⟨bx,0,none⟩/\Ex1 w B x bx
 va:∃ x bx,s.value=[x]/\va=some ⟨bx,0,none⟩/\Ex1 w B x bx
 th:∃ cs,RepS w (fun i=>i<B) s.thn cs/\OwnS w (fun i=>i<B) (.slice ta s.thn.length tc) s.thn.length cs
 el:∃ cs,RepS w (fun i=>i<B) s.els cs/\OwnS w (fun i=>i<B) (.slice ea s.els.length ec) s.els.length cs
theorem yS {B:Nat}{w w':World}{l:List S}{cs:List Value}(h:RepS w (fun i=>i<B) l cs) (hb:Bw kk B w w'):RepS w' (fun i=>i<B) l cs:=h.mono' (fun b hi _=>⟨hb.block b hi,hi⟩)
theorem yU {B n:Nat}{w w':World}{v:Value}{cs:List Value}(h:OwnS w (fun i=>i<B) v n cs) (hb:Bw kk B w w'):OwnS w' (fun i=>i<B) v n cs:=h.mono (fun b hi _=>⟨hb.block b hi,hi⟩)
theorem SV.on {w w':World}{B:Nat}{s:S}{ia va ta ea:Option Addr}{tc ec:Nat}(h:SV w B s ia va ta ea tc ec) (hb:Bw kk B w w'):SV w' B s ia va ta ea tc ec:=by
 refine⟨?_,?_,?_,?_⟩
 ·rcases h.ix with q|⟨x,bx,q1,q2,q3⟩
  ·exact Or.inl q
  ·exact Or.inr ⟨x,bx,q1,q2,q3.on hb⟩
 ·obtain⟨x,bx,q1,q2,q3⟩:=h.va
  exact⟨x,bx,q1,q2,q3.on hb⟩
 ·obtain⟨cs,q1,q2⟩:=h.th
  exact⟨cs,yS q1 hb,yU q2 hb⟩
 ·obtain⟨cs,q1,q2⟩:=h.el
  exact⟨cs,yS q1 hb,yU q2 hb⟩
def sval (s:S) (ia va ta ea:Option Addr) (tc ec:Nat):List Value:=[.int .i64 (s.code:Int),.int .i64 (s.pos:Int),.string (bs s.name),.pointer ia,.pointer va,.slice ta s.thn.length tc,.slice ea s.els.length ec]
theorem reps_get {w:World}{B:Nat}:∀(l:List S) (cs:List Value),RepS w (fun i=>i<B) l cs->Tp.WS l->∀(i:Nat) (h:i<l.length),∃ ia va ta ea tc ec,SV w B l[i] ia va ta ea tc ec/\∀ j,j<7->cs[i * 7+j]?=(sval l[i] ia va ta ea tc ec)[j]?:=by
 intro l
 induction l with
 | nil=>intro cs _ _ i h;simp at h
 | cons s l ih =>
  intro cs h hw i hi
  obtain⟨code,pos,name,index,value,thn,els⟩:=s
  rw[RepS]at h
  rw[Tp.WS]at hw
  obtain⟨tv,ev,ls,vs,tcs,ecs,cs',h1,h2,h3,h4,h5,h6,h7,h8,h9,h10⟩:=h
  subst h1
  cases i with
  | succ i =>
   obtain⟨ia,va,ta,ea,tc,ec,q1,q2⟩:=ih cs' h10 hw.2 i (by simpa using hi)
   refine⟨ia,va,ta,ea,tc,ec,by simpa using q1,fun j hj=>?_⟩
   rw[List.getElem?_append_right (by simp;omega)]
   have:=q2 j hj
   simp only [List.length_cons,List.length_nil,List.getElem_cons_succ]at this ⊢
   rw[<-this]
   congr 1
   omega
  | zero =>
   have hval:Tp.ev value:=by
    rcases hw.1 with⟨_,_,_,q,_⟩|⟨_,_,_,q,_⟩|⟨_,_,_,q,_⟩|⟨_,_,_,q,_⟩|⟨_,_,_,q,_⟩ <;> exact q
   obtain⟨y,rfl⟩:=Tp.len1 hval.2.1
   obtain⟨bv,rfl,hv⟩:=kN h4
   obtain⟨ta,tc,rfl⟩:=h7.shape
   obtain⟨ea,ec,rfl⟩:=h9.shape
   have hix:index=[]\/∃ x,index=[x]:=by
    rcases hw.1 with⟨_,_,q,_⟩|⟨_,_,q,_⟩|⟨_,_,q,_⟩|⟨_,_,q,_⟩|⟨_,_,q,_⟩
    ·rcases q with q|q
     ·exact Or.inl q
     ·exact Or.inr (Tp.len1 q.2.1)
    all_goals exact Or.inl q
   rcases hix with rfl|⟨x,rfl⟩
   ·rw[RepL]at h2
    subst h2
    exact⟨none,some ⟨bv,0,none⟩,ta,ea,tc,ec,⟨Or.inl ⟨rfl,rfl⟩,⟨y,bv,rfl,rfl,hv⟩,⟨tcs,h6,h7⟩,⟨ecs,h8,h9⟩⟩,fun j hj=>by
     rw[Nat.zero_mul,Nat.zero_add,List.getElem?_append_left (by simpa using hj)];rfl⟩
   ·obtain⟨bi,rfl,hi'⟩:=kN h2
    exact⟨some ⟨bi,0,none⟩,some ⟨bv,0,none⟩,ta,ea,tc,ec,⟨Or.inr ⟨x,bi,rfl,rfl,hi'⟩,⟨y,bv,rfl,rfl,hv⟩,⟨tcs,h6,h7⟩,⟨ecs,h8,h9⟩⟩,fun j hj=>by
     rw[Nat.zero_mul,Nat.zero_add,List.getElem?_append_left (by simpa using hj)];rfl⟩
def StmtW (kk:Nat->Prop) (N:Nat):Prop:=∀(s:S),SizeOf.sizeOf s<=N->Tp.WS [s]->∀(w:World) (B d:Nat) (ia va ta ea:Option Addr) (tc ec:Nat) (v:Value) (l:List UInt8),SV w B s ia va ta ea tc ec->Buf kk w B v l->Wr B w->d+Tp.DS [s]<=500->(l++(Tp.ps1 s d).flatten).length<=1000000000 ->
 Calls Tryz.prog 148 #[v,.agg #[.int .i64 (s.code:Int),.int .i64 (s.pos:Int),.string (bs s.name),.pointer ia,.pointer va,.slice ta s.thn.length tc,.slice ea s.els.length ec],.int .i64 (d:Int)] w (Wrote kk B w (l++(Tp.ps1 s d).flatten))
def StmtsW (kk:Nat->Prop) (N:Nat):Prop:=∀(ss:List S),SizeOf.sizeOf ss<=N->Tp.WS ss->∀(w:World) (B d:Nat) (sa:Option Addr) (sc:Nat) (cs:List Value) (v:Value) (l:List UInt8),RepS w (fun i=>i<B) ss cs->OwnS w (fun i=>i<B) (.slice sa ss.length sc) ss.length cs->Buf kk w B v l->Wr B w->d+Tp.DS ss<=500->(l++(Tp.psts ss d).flatten).length<=1000000000 ->
 Calls Tryz.prog 105 #[v,.slice sa ss.length sc,.int .i64 (d:Int)] w (Wrote kk B w (l++(Tp.psts ss d).flatten))
theorem yz (d:Nat):(Tp.tab d).flatten=blanks d:=by
 induction d with
 | zero=>rfl
 | succ d ih =>
  unfold Tp.tab at ih ⊢
  rw[List.replicate_succ,List.flatten_cons,ih]
  unfold blanks
  rw[show ([32,32]:List UInt8)=List.replicate 2 32 from rfl,List.replicate_append_replicate,show 2+2 * d=2 * (d+1) by omega]
theorem ps_take {ss:List S}{d i:Nat}(h:i<ss.length):(Tp.psts (ss.take (i+1)) d).flatten=(Tp.psts (ss.take i) d).flatten++(Tp.ps1 ss[i] d).flatten:=by
 have happ:∀ a b:List S,Tp.psts (a++b) d=Tp.psts a d++Tp.psts b d:=by
  intro a
  induction a with
  | nil=>intro b;simp[Tp.psts,Tp.pst]
  | cons x a ih=>intro b;rw[List.cons_append,Tp.psts_cons,ih,Tp.psts_cons,List.append_assoc]
 rw[List.take_succ_eq_append_getElem h,happ,Tp.psts_cons]
 simp[Tp.psts,Tp.pst]
theorem ps_le (ss:List S) (d:Nat) {i j:Nat}(h:i<=j) (hj:j<=ss.length):(Tp.psts (ss.take i) d).flatten.length<=(Tp.psts (ss.take j) d).flatten.length:=by
 induction h with
 | refl=>exact Nat.le_refl _
 | @step k hk ih =>
  have h1:=ih (by omega)
  rw[ps_take (by omega),List.length_append]
  omega
theorem ws_get {l:List S}(h:Tp.WS l):∀(i:Nat) (hi:i<l.length),Tp.WS [l[i]]/\Tp.DS [l[i]]<=Tp.DS l:=by
 induction l with
 | nil=>intro i hi;simp at hi
 | cons x l ih =>
  intro i hi
  have h1:Tp.WS [x]/\Tp.WS l:=by obtain⟨⟩:=x;rw[Tp.WS]at h;exact⟨by rw[Tp.WS];exact⟨h.1,Tp.WS_nil⟩,h.2⟩
  have hd:Tp.DS (x :: l)=max (Tp.DS [x]) (Tp.DS l):=Tp.DS_app [x] l
  cases i with
  | zero=>exact⟨h1.1,by rw[hd];simp only [List.getElem_cons_zero];omega⟩
  | succ i =>
   have:=ih h1.2 i (by simpa using hi)
   exact⟨by simpa using this.1,by rw[hd];simp only [List.getElem_cons_succ];omega⟩
theorem xM {w:World}{B d:Nat}{v:Value}{l:List UInt8}(hb:Buf kk w B v l) :
  Calls Tryz.prog 105 #[v,.slice none 0 0,.int .i64 (d:Int)] w (Wrote kk B w l):=by
 obtain⟨ao,cap,hv⟩:=zt hb.1
 subst hv
 have HB:Hid (Buf kk w B (.slice ao l.length cap) l):=hb
 clear hb
 go_enter Tryz.func105,Tryz.ntmps105
 go_wp2_with fail
 refine wp_loop_rounds 1 ?_
 rw[rounds_succ]
 go_wp2_with fail
 go_ret
 exact⟨_,rfl,HB.out,Bw.refl _ _⟩
theorem xL {N:Nat}(hE:StmtW kk N) {ss:List S}(hs:SizeOf.sizeOf ss<=N+1) (hw:Tp.WS ss) {w:World}{B g n d cap:Nat}{cur:Array Value}{v:Value}{l:List UInt8}{cs:List Value}(hx:RepS w (fun i=>i<B) ss cs) (hn:n=ss.length) (hn1:n<=2000000000)
  (hgB:g<B) (hblk:w.heap[g]?=some (.cells cur 96 (0,0))) (hcur:cur.toList.take (n * 7)=cs) (hb:Buf kk w B v l) (hr:Wr B w) (hd:d+Tp.DS ss<=500) (hl:(l++(Tp.psts ss d).flatten).length<=1000000000) :
  Calls Tryz.prog 105 #[v,.slice (some ⟨g,0,none⟩) n cap,.int .i64 (d:Int)] w (Wrote kk B w (l++(Tp.psts ss d).flatten)):=by
 have HL:Hid ((l++(Tp.psts (ss.take ss.length) d).flatten).length<=1000000000):=by rw[List.take_length];exact hl
 have HN:Hid (n=ss.length):=hn
 have hcell:∀ i (hi:i<ss.length),∃ ia va ta ea tc ec,SV w B ss[i] ia va ta ea tc ec/\∀ j,j<7->w.cell? ⟨g,i * 7+j,none⟩=(sval ss[i] ia va ta ea tc ec)[j]?:=by
  intro i hi
  obtain⟨ia,va,ta,ea,tc,ec,q1,q2⟩:=reps_get ss cs hx hw i hi
  refine⟨ia,va,ta,ea,tc,ec,q1,fun j hj=>?_⟩
  rw[za hblk,<-Array.getElem?_toList,<-q2 j hj,<-hcur,List.getElem?_take_of_lt (by omega)]
 have HC:Hid (∀ i (hi:i<ss.length),∃ ia va ta ea tc ec,SV w B ss[i] ia va ta ea tc ec/\∀ j,j<7->w.cell? ⟨g,i * 7+j,none⟩=(sval ss[i] ia va ta ea tc ec)[j]?):=hcell
 obtain⟨ao,vcap,hv⟩:=zt hb.1
 subst hv
 have HB:Hid (Buf kk w B (.slice ao l.length vcap) l):=hb
 have hlg:=zc hblk
 clear hl hn hcell hcur hx hblk hb
 go_enter Tryz.func105,Tryz.ntmps105
 go_wp2_with fail
 go_loopg [0,11] n (fun k v vi wr=>∃ i:Nat,i<=n/\k=n - i/\vi=.int .i64 (i:Int)/\Hid (Buf kk wr B v (l++(Tp.psts (ss.take i) d).flatten))/\Bw kk B w wr)
 case atStart=>exact⟨0,by omega,by omega,rfl,by unfold Hid;simpa[Tp.psts,Tp.pst] using HB.out,Bw.refl _ _⟩
 case round =>
  obtain⟨i,hid,hk,rfl,HB1,hbel⟩:=hrel
  clear HB
  by_cases hlt:i<n
  ·have hlt':(i:Int)<(n:Int):=by omega
   have hia:i<ss.length:=by have:=HN.out;omega
   obtain⟨ia,va,ta,ea,tc,ec,k1,k2⟩:=HC.out i hia
   have kc:∀ j,j<7->wr.cell? ⟨g,i * 7+j,none⟩=(sval ss[i] ia va ta ea tc ec)[j]?:=fun j hj=>(hbel.cell (p:=⟨g,i * 7+j,none⟩) hgB).trans (k2 j hj)
   have hlgr:g<wr.heap.size:=by have:=hbel.size;omega
   have kc0:=kc 0 (by omega)
   have kc1:=kc 1 (by omega)
   have kc2:=kc 2 (by omega)
   have kc3:=kc 3 (by omega)
   have kc4:=kc 4 (by omega)
   have kc5:=kc 5 (by omega)
   have kc6:=kc 6 (by omega)
   simp only [sval,List.getElem?_cons_zero,List.getElem?_cons_succ,Nat.add_zero]at kc0 kc1 kc2 kc3 kc4 kc5 kc6
   have hwe:=ws_get hw i hia
   have hse:SizeOf.sizeOf ss[i]<=N:=by have:=List.sizeOf_lt_of_mem (List.getElem_mem hia);omega
   have hle:=ps_le ss d (show i+1<=ss.length by omega) zn
   have hbuf:=HB1.out
   have e1:=ps_take (d:=d) hia
   have hlen:=HL.out
   have hlen2:(l++(Tp.psts (ss.take (i+1)) d).flatten).length<=1000000000:=by simp only [List.length_append]at hlen ⊢;omega
   rw[e1]at hlen2
   obtain⟨m,hm⟩:∃ m,m=l++(Tp.psts (ss.take i) d).flatten:=⟨_,rfl⟩
   rw[<-hm]at hbuf
   obtain⟨a1,c1,hv⟩:=zt hbuf.1
   subst hv
   have hcall:=fun W (hW:Bw kk B wr W) (hBW:Buf kk W B (.slice a1 m.length c1) m)=>hE ss[i] hse hwe.1 W B d ia va ta ea tc ec _ m ((k1.on hbel).on hW) hBW ((hr.on hbel).on hW) (by omega) (by rw[hm];simpa[List.append_assoc] using hlen2)
   rw[show m++(Tp.ps1 ss[i] d).flatten=l++(Tp.psts (ss.take (i+1)) d).flatten by rw[hm,e1,List.append_assoc]]at hcall
   have HCL:Hid (∀ W,Bw kk B wr W->Buf kk W B (.slice a1 m.length c1) m->Calls Tryz.prog 148 #[.slice a1 m.length c1,.agg #[.int .i64 (ss[i].code:Int),.int .i64 (ss[i].pos:Int),.string (bs ss[i].name),.pointer ia,.pointer va,.slice ta ss[i].thn.length tc,.slice ea ss[i].els.length ec],.int .i64 (d:Int)] W (Wrote kk B W (l++(Tp.psts (ss.take (i+1)) d).flatten))):=hcall
   have HBUF:Hid (Buf kk wr B (.slice a1 m.length c1) m):=hbuf
   clear hcall e1 hlen hle k1 k2 hwe hse hbuf hlen2 hm HB1 kc
   generalize ss[i].code=x0 at *
   generalize ss[i].pos=x1 at *
   generalize ss[i].name=x2 at *
   generalize ss[i].thn.length=x5 at *
   generalize ss[i].els.length=x6 at *
   go_wp2_with fail
   have hal:∀ ob,Below wr.heap.size wr (wr.alloc ob):=fun ob=>zb _ _
   refine(HCL.out _ (Bw.of (kk:=kk) (hal _) HBUF.out.2) (HBUF.out.below (hal _))).mono ?_
   rintro e w3 ⟨v3,rfl,hbuf3,hbel3⟩
   have HB3:Hid (Buf kk w3 B v3 (l++(Tp.psts (ss.take (i+1)) d).flatten)):=hbuf3
   have HBW:Hid (Bw kk B w w3):=(hbel.trans (Bw.of (kk:=kk) (hal _) HBUF.out.2)).trans hbel3
   clear hbuf3 hal hbel3
   go_wp2_with fail
   go_roundg (n - (i+1))
   case measure=>omega
   case rel=>exact⟨i+1,by omega,rfl,by go_num,HB3,HBW.out⟩
  ·have hlt':¬(i:Int)<(n:Int):=by omega
   have e:i=ss.length:=by have:=HN.out;omega
   obtain⟨m,hm⟩:∃ m,m=l++(Tp.psts (ss.take i) d).flatten:=⟨_,rfl⟩
   have hbuf:=HB1.out
   rw[<-hm]at hbuf
   obtain⟨a1,c1,hv⟩:=zt hbuf.1
   subst hv
   rw[e,List.take_length]at hm
   have HB3:Hid (Buf kk wr B (.slice a1 m.length c1) (l++(Tp.psts ss d).flatten)):=by rw[<-hm];exact hbuf
   clear HB1 hm hbuf e
   go_wp2_with fail
   go_ret
   exact⟨_,rfl,HB3.out,hbel⟩
theorem yX {N:Nat}(hE:StmtsW kk N) {ss:List S}(hs:SizeOf.sizeOf ss<=N) (hw:Tp.WS ss) {w:World}{B d:Nat}{sa:Option Addr}{sc:Nat}{cs:List Value}{v:Value}{l:List UInt8}(hx:RepS w (fun i=>i<B) ss cs) (ho:OwnS w (fun i=>i<B) (.slice sa ss.length sc) ss.length cs) (hb:Buf kk w B v l) (hr:Wr B w) (hd:d+1+Tp.DS ss<=500) (hl:(l++(Tp.psts ss (d+1)).flatten++blanks d++[101,110,100]).length<=1000000000) :
  Calls Tryz.prog 208 #[v,.slice sa ss.length sc,.int .i64 (d:Int)] w (Wrote kk B w (l++(Tp.psts ss (d+1)).flatten++blanks d++[101,110,100])):=by
 have hd':(d:Int)<=500:=by omega
 have hcall:=hE ss hs hw w B (d+1) sa sc cs v l hx ho hb hr hd (by simp only [List.length_append]at hl ⊢;omega)
 obtain⟨m1,hm1⟩:∃ m1,m1=l++(Tp.psts ss (d+1)).flatten:=⟨_,rfl⟩
 rw[<-hm1]at hcall hl ⊢
 have HC:Hid (Calls Tryz.prog 105 #[v,.slice sa ss.length sc,.int .i64 ((d:Int)+1)] w (Wrote kk B w m1)):=hcall
 clear hcall hm1
 simp only [List.length_append]at hl
 go_enter Tryz.func208,Tryz.ntmps208
 go_wp2_with fail
 refine HC.out.mono ?_
 rintro e w3 ⟨v3,rfl,hbuf3,hbel3⟩
 have hcall:=zV hbuf3 d (by omega) (by omega)
 have HC2:Hid (Calls Tryz.prog 207 #[v3,.int .i64 (d:Int)] w3 (Wrote kk B w3 (m1++blanks d))):=hcall
 clear hcall
 go_wp2_with fail
 refine HC2.out.mono ?_
 rintro e w4 ⟨v4,rfl,hbuf4,hbel4⟩
 have hcall:=addAll1 hbuf4 [101,110,100] (by simp only [List.length_append];exact hl)
 have HC3:Hid (Calls Tryz.prog 102 #[v4,.slice (some ⟨w4.heap.size,0,none⟩) 1 1] (w4.alloc (.cells #[.string ⟨#[101,110,100]⟩] 9)) (Wrote kk B w4 (m1++blanks d++[101,110,100]))):=hcall
 clear hcall hbuf3 hbuf4
 go_wp2_with fail
 refine HC3.out.mono ?_
 rintro e w5 ⟨v5,rfl,hbuf5,hbel5⟩
 have HB:Hid (Buf kk w5 B v5 (m1++blanks d++[101,110,100])):=hbuf5
 clear hbuf5
 go_wp2_with fail
 go_ret
 exact⟨_,rfl,HB.out,(hbel3.trans hbel4).trans hbel5⟩
def branchB (th el:List S) (d:Nat):List UInt8:=(if el.isEmpty then [] else (Tp.psts th (d+1)).flatten++blanks d++[101,108,115,101,10])++(Tp.psts (if el.isEmpty then th else el) (d+1)).flatten++blanks d++[101,110,100]
theorem jt {N:Nat}(hE:StmtsW kk N) {s:S}(hs:SizeOf.sizeOf s.thn<=N) (hs2:SizeOf.sizeOf s.els<=N) (hw:Tp.WS s.thn) (hw2:Tp.WS s.els) {w:World}{B d:Nat}{ia va ta ea:Option Addr}{tc ec:Nat}{v:Value}{l:List UInt8}(hx:SV w B s ia va ta ea tc ec) (hb:Buf kk w B v l) (hr:Wr B w) (hd:d+1+max (Tp.DS s.thn) (Tp.DS s.els)<=500) (hl:(l++branchB s.thn s.els d).length<=1000000000) :
  Calls Tryz.prog 209 #[v,.agg #[.int .i64 (s.code:Int),.int .i64 (s.pos:Int),.string (bs s.name),.pointer ia,.pointer va,.slice ta s.thn.length tc,.slice ea s.els.length ec],.int .i64 (d:Int)] w (Wrote kk B w (l++branchB s.thn s.els d)):=by
 have hd':(d:Int)<=500:=by omega
 obtain⟨cs1,t1,t2⟩:=hx.th
 obtain⟨cs2,e1,e2⟩:=hx.el
 have hal:∀ ob,Below w.heap.size w (w.alloc ob):=fun ob=>zb _ _
 by_cases he:s.els=[]
 ·have hlen:s.els.length=0:=by rw[he];rfl
  have hbr:l++branchB s.thn s.els d=l++(Tp.psts s.thn (d+1)).flatten++blanks d++[101,110,100]:=by unfold branchB;rw[he];simp
  rw[hbr]at hl ⊢
  have HC:Hid (∀ ob,Calls Tryz.prog 208 #[v,.slice ta s.thn.length tc,.int .i64 (d:Int)] (w.alloc ob) (Wrote kk B (w.alloc ob) (l++(Tp.psts s.thn (d+1)).flatten++blanks d++[101,110,100]))):=fun ob =>
   yX hE hs hw (yS t1 (Bw.of (kk:=kk) (hal ob) hb.2)) (yU t2 (Bw.of (kk:=kk) (hal ob) hb.2)) (hb.below (hal ob)) (hr.on (Bw.of (kk:=kk) (hal ob) hb.2)) (by omega) hl
  have HBW:Hid (∀ ob,Bw kk B w (w.alloc ob)):=fun ob=>Bw.of (kk:=kk) (hal ob) hb.2
  clear hbr hl hal he hb
  generalize s.thn.length=x5 at *
  generalize s.els.length=x6 at *
  subst hlen
  go_enter Tryz.func209,Tryz.ntmps209
  go_wp2_with fail
  refine(HC.out _).mono ?_
  rintro e w5 ⟨v5,rfl,hbuf5,hbel5⟩
  have HB:Hid (Buf kk w5 B v5 (l++(Tp.psts s.thn (d+1)).flatten++blanks d++[101,110,100])):=hbuf5
  have HBB:Hid (Bw kk B w w5):=(HBW.out _).trans hbel5
  clear hbuf5 hbel5
  go_wp2_with fail
  go_ret
  exact⟨_,rfl,HB.out,HBB.out⟩
 ·have hlen:((s.els.length:Int) == 0)=false:=by
   have:s.els.length≠0:=fun e=>he (List.eq_nil_of_length_eq_zero e)
   simp;omega
  have hbr:l++branchB s.thn s.els d=l++(Tp.psts s.thn (d+1)).flatten++blanks d++[101,108,115,101,10]++(Tp.psts s.els (d+1)).flatten++blanks d++[101,110,100]:=by
   unfold branchB
   have:s.els.isEmpty=false:=by simpa using he
   simp[this]
  rw[hbr]at hl ⊢
  have HL:Hid ((l++(Tp.psts s.thn (d+1)).flatten++blanks d++[101,108,115,101,10]++(Tp.psts s.els (d+1)).flatten++blanks d++[101,110,100]).length<=1000000000):=hl
  have hcall:=fun ob=>hE s.thn hs hw (w.alloc ob) B (d+1) ta tc cs1 v l (yS t1 (Bw.of (kk:=kk) (hal ob) hb.2)) (yU t2 (Bw.of (kk:=kk) (hal ob) hb.2)) (hb.below (hal ob)) (hr.on (Bw.of (kk:=kk) (hal ob) hb.2)) (by omega) (by simp only [List.length_append]at hl ⊢;omega)
  obtain⟨m1,hm1⟩:∃ m1,m1=l++(Tp.psts s.thn (d+1)).flatten:=⟨_,rfl⟩
  rw[<-hm1]at hcall hl ⊢
  have HM1:Hid (m1=l++(Tp.psts s.thn (d+1)).flatten):=hm1
  have HC:Hid (∀ ob,Calls Tryz.prog 105 #[v,.slice ta s.thn.length tc,.int .i64 ((d:Int)+1)] (w.alloc ob) (Wrote kk B (w.alloc ob) m1)):=hcall
  have HBW:Hid (∀ ob,Bw kk B w (w.alloc ob)):=fun ob=>Bw.of (kk:=kk) (hal ob) hb.2
  have HELS:Hid (∀ W v' m,Bw kk B w W->Buf kk W B v' m->(m++(Tp.psts s.els (d+1)).flatten++blanks d++[101,110,100]).length<=1000000000->Calls Tryz.prog 208 #[v',.slice ea s.els.length ec,.int .i64 (d:Int)] W (Wrote kk B W (m++(Tp.psts s.els (d+1)).flatten++blanks d++[101,110,100]))):=fun W v' m hW hB hlm =>
   yX hE hs2 hw2 (yS e1 hW) (yU e2 hW) hB (hr.on hW) (by omega) hlm
  have hbase:=hb.2
  clear hcall hbr hal he hm1 hb t1 t2 e1 e2
  generalize s.thn.length=x5 at *
  generalize s.els.length=x6 at *
  generalize s.code=x0 at *
  generalize s.pos=x1 at *
  generalize s.name=x2 at *
  simp only [List.length_append]at hl
  obtain⟨m2,hm2⟩:∃ m2,m2=m1++blanks d++[101,108,115,101,10]++(Tp.psts s.els (d+1)).flatten++blanks d++[101,110,100]:=⟨_,rfl⟩
  rw[<-hm2]
  have HM2:Hid (m2=m1++blanks d++[101,108,115,101,10]++(Tp.psts s.els (d+1)).flatten++blanks d++[101,110,100]):=hm2
  clear hm2
  go_enter Tryz.func209,Tryz.ntmps209
  go_wp2_with fail
  refine(HC.out _).mono ?_
  rintro e w3 ⟨v3,rfl,hbuf3,hbel3⟩
  have hblk:(w.alloc (.cells #[.int .i64 (x0:Int),.int .i64 (x1:Int),.string (bs x2),.pointer ia,.pointer va,.slice ta x5 tc,.slice ea x6 ec] 96)).heap[w.heap.size]?=some (.cells #[.int .i64 (x0:Int),.int .i64 (x1:Int),.string (bs x2),.pointer ia,.pointer va,.slice ta x5 tc,.slice ea x6 ec] 96 (0,0)):=zu _ _
  have hblk3:=hbel3.keeps hblk (by decide)
  have hB3:Bw kk B w w3:=(HBW.out _).trans hbel3
  have hcall:=zV hbuf3 d (by omega) (by omega)
  have HC2:Hid (Calls Tryz.prog 207 #[v3,.int .i64 (d:Int)] w3 (Wrote kk B w3 (m1++blanks d))):=hcall
  clear hcall hblk hbel3
  go_wp2_with fail
  refine HC2.out.mono ?_
  rintro e w4 ⟨v4,rfl,hbuf4,hbel4⟩
  have hblk4:=hbel4.keeps hblk3 (by decide)
  have hB4:=hB3.trans hbel4
  have hcall:=addAll1 hbuf4 [101,108,115,101,10] (by simp only [List.length_append];omega)
  have HC3:Hid (Calls Tryz.prog 102 #[v4,.slice (some ⟨w4.heap.size,0,none⟩) 1 1] (w4.alloc (.cells #[.string ⟨#[101,108,115,101,10]⟩] 9)) (Wrote kk B w4 (m1++blanks d++[101,108,115,101,10]))):=hcall
  clear hcall hbuf3 hbuf4 hblk3
  go_wp2_with fail
  refine HC3.out.mono ?_
  rintro e w5 ⟨v5,rfl,hbuf5,hbel5⟩
  have hblk5:=hbel5.keeps hblk4 (by decide)
  have hB5:=hB4.trans hbel5
  have k6:w5.cell? ⟨w.heap.size,6,none⟩=some (.slice ea x6 ec):=(za hblk5).trans rfl
  have hlt5:=zc hblk5
  have hcall:=HELS.out w5 v5 _ hB5 hbuf5 (by rw[HM1.out];exact HL.out)
  rw[<-HM2.out]at hcall
  have HC4:Hid (Calls Tryz.prog 208 #[v5,.slice ea x6 ec,.int .i64 (d:Int)] w5 (Wrote kk B w5 m2)):=hcall
  clear hcall hbuf5 hblk4 hblk5
  go_wp2_with fail
  refine HC4.out.mono ?_
  rintro e w6 ⟨v6,rfl,hbuf6,hbel6⟩
  have HB:Hid (Buf kk w6 B v6 m2):=hbuf6
  have HBB:Hid (Bw kk B w w6):=hB5.trans hbel6
  clear hbuf6
  go_wp2_with fail
  go_ret
  exact⟨_,rfl,HB.out,HBB.out⟩
theorem zH {w:World}{b:Nat}{v0 v1 v2 v3 v4 v5 v6:Value}(h:w.heap[b]?=some (.cells #[v0,v1,v2,v3,v4,v5,v6] 96 (0,0))):w.cell? ⟨b,0,none⟩=some v0/\w.cell? ⟨b,2,none⟩=some v2/\w.cell? ⟨b,3,none⟩=some v3/\w.cell? ⟨b,4,none⟩=some v4/\w.cell? ⟨b,5,none⟩=some v5/\w.cell? ⟨b,6,none⟩=some v6 :=
 ⟨(za h).trans rfl,(za h).trans rfl,(za h).trans rfl,(za h).trans rfl,(za h).trans rfl,(za h).trans rfl⟩
theorem jU {pos d:Nat}{y:X}(hw:Tp.WX [y]) {w:World}{B bx:Nat}{ta ea:Option Addr}{tc ec:Nat}{v:Value}{l:List UInt8}(hx:Ex1 w B y bx) (hb:Buf kk w B v l) (hr:Wr B w) (hd:d<=500) (hl:(l++blanks d++[114,101,116,117,114,110,32]++(Tp.pxs [y]).flatten++[59,10]).length<=1000000000) :
  Calls Tryz.prog 148 #[v,.agg #[.int .i64 4,.int .i64 (pos:Int),.string ⟨#[]⟩,.pointer none,.pointer (some ⟨bx,0,none⟩),.slice ta 0 tc,.slice ea 0 ec],.int .i64 (d:Int)] w (Wrote kk B w (l++blanks d++[114,101,116,117,114,110,32]++(Tp.pxs [y]).flatten++[59,10])):=by
 have hd':(d:Int)<=500:=by omega
 have hal:∀ ob,Below w.heap.size w (w.alloc ob):=fun ob=>zb _ _
 have HBW:Hid (∀ ob,Bw kk B w (w.alloc ob)):=fun ob=>Bw.of (kk:=kk) (hal ob) hb.2
 have HC:Hid (∀ ob,Calls Tryz.prog 207 #[v,.int .i64 (d:Int)] (w.alloc ob) (Wrote kk B (w.alloc ob) (l++blanks d))):=fun ob=>zV (hb.below (hal ob)) d (by omega) (by simp only [List.length_append]at hl;omega)
 have HL:Hid ((l++blanks d++[114,101,116,117,114,110,32]++(Tp.pxs [y]).flatten++[59,10]).length<=1000000000):=hl
 have HX:Hid (Ex1 w B y bx):=hx
 have HR:Hid (Wr B w):=hr
 obtain⟨mf,hmf⟩:∃ mf,mf=l++blanks d++[114,101,116,117,114,110,32]++(Tp.pxs [y]).flatten++[59,10]:=⟨_,rfl⟩
 rw[<-hmf]
 have HMF:Hid (mf=l++blanks d++[114,101,116,117,114,110,32]++(Tp.pxs [y]).flatten++[59,10]):=hmf
 clear hmf hl hx hr hal hb
 go_enter Tryz.func148,Tryz.ntmps148
 go_wp2_with fail
 refine(HC.out _).mono ?_
 rintro e w3 ⟨v3,rfl,hbuf3,hbel3⟩
 have hblk:(w.alloc (.cells #[.int .i64 4,.int .i64 (pos:Int),.string ⟨#[]⟩,.pointer none,.pointer (some ⟨bx,0,none⟩),.slice ta 0 tc,.slice ea 0 ec] 96)).heap[w.heap.size]?=some (.cells #[.int .i64 4,.int .i64 (pos:Int),.string ⟨#[]⟩,.pointer none,.pointer (some ⟨bx,0,none⟩),.slice ta 0 tc,.slice ea 0 ec] 96 (0,0)):=zu _ _
 have hblk3:=hbel3.keeps hblk (by decide)
 have hB3:Bw kk B w w3:=(HBW.out _).trans hbel3
 obtain⟨k0,k2,k3,k4,k5,k6⟩:=zH hblk3
 have hlt3:=zc hblk3
 have hd3:=zk w3
 have hbuf3d:=hbuf3.below hd3
 have hB3d:Bw kk B w w3.drew:=hB3.trans (Bw.of (kk:=kk) hd3 hbuf3.2)
 have hblk3d:=(Bw.of (kk:=kk) hd3 hbuf3.2).keeps hblk3 (by decide)
 have hcall:=addAll1 hbuf3d [114,101,116,117,114,110,32] (by have:=HL.out;simp only [List.length_append]at this ⊢;omega)
 have HA:Hid (Calls Tryz.prog 102 #[v3,.slice (some ⟨w3.drew.heap.size,0,none⟩) 1 1] (w3.drew.alloc (.cells #[.string ⟨#[114,101,116,117,114,110,32]⟩] 9)) (Wrote kk B w3.drew (l++blanks d++[114,101,116,117,114,110,32]))):=hcall
 clear hcall hbel3 hblk k2 k3 k5 k6
 have q4:w3.drew.cell? ⟨w.heap.size,4,none⟩=some (.pointer (some ⟨bx,0,none⟩)):=(zH hblk3d).2.2.2.1
 have HK:Hid (∀ ob,(w3.drew.alloc ob).cell? ⟨w.heap.size,4,none⟩=some (.pointer (some ⟨bx,0,none⟩))):=fun ob=>z7 q4 ob
 go_wp2_with fail
 go_region_held3 (fun w'=>w'.cell? ⟨w.heap.size,4,none⟩=some (.pointer (some ⟨bx,0,none⟩))) (first|(exact k4)|(exact q4)|(exact HK.out _)|(exact q5)|(exact q6)) (first|(go_at_call 102;refine HA.out.mono ?_;rintro e w5 ⟨v5,rfl,hbuf5,hbel5⟩;have hblk5:=hbel5.keeps hblk3d (by decide);have hB5:=hB3d.trans hbel5;have q5:w5.cell? ⟨w.heap.size,4,none⟩=some (.pointer (some ⟨bx,0,none⟩)):=(zH hblk5).2.2.2.1)|(go_at_call 111;refine(ys _ y zn hw w5 B bx v5 _ (HX.out.on hB5) hbuf5 (HR.out.on hB5) (by have:=HL.out;simp only [List.length_append]at this ⊢;omega)).mono ?_;rintro e w6 ⟨v6,rfl,hbuf6,hbel6⟩;have hblk6:=hbel6.keeps hblk5 (by decide);have q6:w6.cell? ⟨w.heap.size,4,none⟩=some (.pointer (some ⟨bx,0,none⟩)):=(zH hblk6).2.2.2.1))
 all_goals
  have hB6:=hB5.trans hbel6
  have hcall:=addAll1 hbuf6 [59,10] HL.out
  rw[<-HMF.out]at hcall
  have HA2:Hid (Calls Tryz.prog 102 #[v6,.slice (some ⟨w6.heap.size,0,none⟩) 1 1] (w6.alloc (.cells #[.string ⟨#[59,10]⟩] 9)) (Wrote kk B w6 mf)):=hcall
  clear hcall hbuf6 hbuf5 hbuf3 hbuf3d
  go_wp2_with fail
  refine HA2.out.mono ?_
  rintro e w7 ⟨v7,rfl,hbuf7,hbel7⟩
  have HB:Hid (Buf kk w7 B v7 mf):=hbuf7
  have HBB:Hid (Bw kk B w w7):=hB6.trans hbel7
  clear hbuf7
  go_wp2_with fail
  go_ret
  exact⟨_,rfl,HB.out,HBB.out⟩
theorem xN {pos d:Nat}{y:X}(hw:Tp.WX [y]) {w:World}{B bx:Nat}{ta ea:Option Addr}{tc ec:Nat}{v:Value}{l:List UInt8}(hx:Ex1 w B y bx) (hb:Buf kk w B v l) (hr:Wr B w) (hd:d<=500) (hl:(l++blanks d++[119,114,105,116,101,32]++(Tp.pxs [y]).flatten++[59,10]).length<=1000000000) :
  Calls Tryz.prog 148 #[v,.agg #[.int .i64 5,.int .i64 (pos:Int),.string ⟨#[]⟩,.pointer none,.pointer (some ⟨bx,0,none⟩),.slice ta 0 tc,.slice ea 0 ec],.int .i64 (d:Int)] w (Wrote kk B w (l++blanks d++[119,114,105,116,101,32]++(Tp.pxs [y]).flatten++[59,10])):=by
 have hd':(d:Int)<=500:=by omega
 have hal:∀ ob,Below w.heap.size w (w.alloc ob):=fun ob=>zb _ _
 have HBW:Hid (∀ ob,Bw kk B w (w.alloc ob)):=fun ob=>Bw.of (kk:=kk) (hal ob) hb.2
 have HC:Hid (∀ ob,Calls Tryz.prog 207 #[v,.int .i64 (d:Int)] (w.alloc ob) (Wrote kk B (w.alloc ob) (l++blanks d))):=fun ob=>zV (hb.below (hal ob)) d (by omega) (by simp only [List.length_append]at hl;omega)
 have HL:Hid ((l++blanks d++[119,114,105,116,101,32]++(Tp.pxs [y]).flatten++[59,10]).length<=1000000000):=hl
 have HX:Hid (Ex1 w B y bx):=hx
 have HR:Hid (Wr B w):=hr
 obtain⟨mf,hmf⟩:∃ mf,mf=l++blanks d++[119,114,105,116,101,32]++(Tp.pxs [y]).flatten++[59,10]:=⟨_,rfl⟩
 rw[<-hmf]
 have HMF:Hid (mf=l++blanks d++[119,114,105,116,101,32]++(Tp.pxs [y]).flatten++[59,10]):=hmf
 clear hmf hl hx hr hal hb
 go_enter Tryz.func148,Tryz.ntmps148
 go_wp2_with fail
 refine(HC.out _).mono ?_
 rintro e w3 ⟨v3,rfl,hbuf3,hbel3⟩
 have hblk:(w.alloc (.cells #[.int .i64 5,.int .i64 (pos:Int),.string ⟨#[]⟩,.pointer none,.pointer (some ⟨bx,0,none⟩),.slice ta 0 tc,.slice ea 0 ec] 96)).heap[w.heap.size]?=some (.cells #[.int .i64 5,.int .i64 (pos:Int),.string ⟨#[]⟩,.pointer none,.pointer (some ⟨bx,0,none⟩),.slice ta 0 tc,.slice ea 0 ec] 96 (0,0)):=zu _ _
 have hblk3:=hbel3.keeps hblk (by decide)
 have hB3:Bw kk B w w3:=(HBW.out _).trans hbel3
 obtain⟨k0,k2,k3,k4,k5,k6⟩:=zH hblk3
 have hlt3:=zc hblk3
 have hd3:=zk w3
 have hbuf3d:=hbuf3.below hd3
 have hB3d:Bw kk B w w3.drew:=hB3.trans (Bw.of (kk:=kk) hd3 hbuf3.2)
 have hblk3d:=(Bw.of (kk:=kk) hd3 hbuf3.2).keeps hblk3 (by decide)
 have hcall:=addAll1 hbuf3d [119,114,105,116,101,32] (by have:=HL.out;simp only [List.length_append]at this ⊢;omega)
 have HA:Hid (Calls Tryz.prog 102 #[v3,.slice (some ⟨w3.drew.heap.size,0,none⟩) 1 1] (w3.drew.alloc (.cells #[.string ⟨#[119,114,105,116,101,32]⟩] 9)) (Wrote kk B w3.drew (l++blanks d++[119,114,105,116,101,32]))):=hcall
 clear hcall hbel3 hblk k2 k3 k5 k6
 have q4:w3.drew.cell? ⟨w.heap.size,4,none⟩=some (.pointer (some ⟨bx,0,none⟩)):=(zH hblk3d).2.2.2.1
 have HK:Hid (∀ ob,(w3.drew.alloc ob).cell? ⟨w.heap.size,4,none⟩=some (.pointer (some ⟨bx,0,none⟩))):=fun ob=>z7 q4 ob
 go_wp2_with fail
 go_region_held3 (fun w'=>w'.cell? ⟨w.heap.size,4,none⟩=some (.pointer (some ⟨bx,0,none⟩))) (first|(exact k4)|(exact q4)|(exact HK.out _)|(exact q5)|(exact q6)) (first|(go_at_call 102;refine HA.out.mono ?_;rintro e w5 ⟨v5,rfl,hbuf5,hbel5⟩;have hblk5:=hbel5.keeps hblk3d (by decide);have hB5:=hB3d.trans hbel5;have q5:w5.cell? ⟨w.heap.size,4,none⟩=some (.pointer (some ⟨bx,0,none⟩)):=(zH hblk5).2.2.2.1)|(go_at_call 111;refine(ys _ y zn hw w5 B bx v5 _ (HX.out.on hB5) hbuf5 (HR.out.on hB5) (by have:=HL.out;simp only [List.length_append]at this ⊢;omega)).mono ?_;rintro e w6 ⟨v6,rfl,hbuf6,hbel6⟩;have hblk6:=hbel6.keeps hblk5 (by decide);have q6:w6.cell? ⟨w.heap.size,4,none⟩=some (.pointer (some ⟨bx,0,none⟩)):=(zH hblk6).2.2.2.1))
 all_goals
  have hB6:=hB5.trans hbel6
  have hcall:=addAll1 hbuf6 [59,10] HL.out
  rw[<-HMF.out]at hcall
  have HA2:Hid (Calls Tryz.prog 102 #[v6,.slice (some ⟨w6.heap.size,0,none⟩) 1 1] (w6.alloc (.cells #[.string ⟨#[59,10]⟩] 9)) (Wrote kk B w6 mf)):=hcall
  clear hcall hbuf6 hbuf5 hbuf3 hbuf3d
  go_wp2_with fail
  refine HA2.out.mono ?_
  rintro e w7 ⟨v7,rfl,hbuf7,hbel7⟩
  have HB:Hid (Buf kk w7 B v7 mf):=hbuf7
  have HBB:Hid (Bw kk B w w7):=hB6.trans hbel7
  clear hbuf7
  go_wp2_with fail
  go_ret
  exact⟨_,rfl,HB.out,HBB.out⟩
theorem vM {pos d:Nat}{y:X}(hw:Tp.WX [y]) {w:World}{B bx:Nat}{ta ea:Option Addr}{tc ec:Nat}{v:Value}{l:List UInt8}(hx:Ex1 w B y bx) (hb:Buf kk w B v l) (hr:Wr B w) (hd:d<=500) (hl:(l++blanks d++(Tp.pxs [y]).flatten++[59,10]).length<=1000000000) :
  Calls Tryz.prog 148 #[v,.agg #[.int .i64 6,.int .i64 (pos:Int),.string ⟨#[]⟩,.pointer none,.pointer (some ⟨bx,0,none⟩),.slice ta 0 tc,.slice ea 0 ec],.int .i64 (d:Int)] w (Wrote kk B w (l++blanks d++(Tp.pxs [y]).flatten++[59,10])):=by
 have hd':(d:Int)<=500:=by omega
 have hal:∀ ob,Below w.heap.size w (w.alloc ob):=fun ob=>zb _ _
 have HBW:Hid (∀ ob,Bw kk B w (w.alloc ob)):=fun ob=>Bw.of (kk:=kk) (hal ob) hb.2
 have HC:Hid (∀ ob,Calls Tryz.prog 207 #[v,.int .i64 (d:Int)] (w.alloc ob) (Wrote kk B (w.alloc ob) (l++blanks d))):=fun ob=>zV (hb.below (hal ob)) d (by omega) (by simp only [List.length_append]at hl;omega)
 have HL:Hid ((l++blanks d++(Tp.pxs [y]).flatten++[59,10]).length<=1000000000):=hl
 have HX:Hid (Ex1 w B y bx):=hx
 have HR:Hid (Wr B w):=hr
 obtain⟨mf,hmf⟩:∃ mf,mf=l++blanks d++(Tp.pxs [y]).flatten++[59,10]:=⟨_,rfl⟩
 rw[<-hmf]
 have HMF:Hid (mf=l++blanks d++(Tp.pxs [y]).flatten++[59,10]):=hmf
 clear hmf hl hx hr hal hb
 go_enter Tryz.func148,Tryz.ntmps148
 go_wp2_with fail
 refine(HC.out _).mono ?_
 rintro e w3 ⟨v3,rfl,hbuf3,hbel3⟩
 have hblk:(w.alloc (.cells #[.int .i64 6,.int .i64 (pos:Int),.string ⟨#[]⟩,.pointer none,.pointer (some ⟨bx,0,none⟩),.slice ta 0 tc,.slice ea 0 ec] 96)).heap[w.heap.size]?=some (.cells #[.int .i64 6,.int .i64 (pos:Int),.string ⟨#[]⟩,.pointer none,.pointer (some ⟨bx,0,none⟩),.slice ta 0 tc,.slice ea 0 ec] 96 (0,0)):=zu _ _
 have hblk3:=hbel3.keeps hblk (by decide)
 have hB3:Bw kk B w w3:=(HBW.out _).trans hbel3
 obtain⟨k0,k2,k3,k4,k5,k6⟩:=zH hblk3
 have hlt3:=zc hblk3
 have hcall:=ys _ y zn hw w3 B bx v3 _ (HX.out.on hB3) hbuf3 (HR.out.on hB3) (by have:=HL.out;simp only [List.length_append]at this ⊢;omega)
 have HE:Hid (Calls Tryz.prog 111 #[v3,.pointer (some ⟨bx,0,none⟩)] w3 (Wrote kk B w3 (l++blanks d++(Tp.pxs [y]).flatten))):=hcall
 clear hcall hbel3 hblk k2 k3 k5 k6 hbuf3
 go_wp2_with fail
 refine HE.out.mono ?_
 rintro e w6 ⟨v6,rfl,hbuf6,hbel6⟩
 have hB6:=hB3.trans hbel6
 have hcall:=addAll1 hbuf6 [59,10] HL.out
 rw[<-HMF.out]at hcall
 have HA2:Hid (Calls Tryz.prog 102 #[v6,.slice (some ⟨w6.heap.size,0,none⟩) 1 1] (w6.alloc (.cells #[.string ⟨#[59,10]⟩] 9)) (Wrote kk B w6 mf)):=hcall
 clear hcall hbuf6
 go_wp2_with fail
 refine HA2.out.mono ?_
 rintro e w7 ⟨v7,rfl,hbuf7,hbel7⟩
 have HB:Hid (Buf kk w7 B v7 mf):=hbuf7
 have HBB:Hid (Bw kk B w w7):=hB6.trans hbel7
 clear hbuf7
 go_wp2_with fail
 go_ret
 exact⟨_,rfl,HB.out,HBB.out⟩
structure FX (kk:Nat->Prop) (B:Nat) (w0:World) (bx:Nat) (v0 v1 v2 v3 v4 v5 v6:Value) (W:World) (v:Value) (m:List UInt8):Prop where
 buf:Buf kk W B v m
 bw:Bw kk B w0 W
 box:W.heap[bx]?=some (.cells #[v0,v1,v2,v3,v4,v5,v6] 96 (0,0))
theorem FX.c4 {B:Nat}{w0:World}{bx:Nat}{v0 v1 v2 v3 v4 v5 v6:Value}{W:World}{v:Value}{m:List UInt8}(h:FX kk B w0 bx v0 v1 v2 v3 v4 v5 v6 W v m):W.cell? ⟨bx,4,none⟩=some v4:=(zH h.box).2.2.2.1
theorem FX.c3 {B:Nat}{w0:World}{bx:Nat}{v0 v1 v2 v3 v4 v5 v6:Value}{W:World}{v:Value}{m:List UInt8}(h:FX kk B w0 bx v0 v1 v2 v3 v4 v5 v6 W v m):W.cell? ⟨bx,3,none⟩=some v3:=(zH h.box).2.2.1
theorem FX.old {B:Nat}{w0:World}{bx:Nat}{v0 v1 v2 v3 v4 v5 v6:Value}{W W':World}{v:Value}{m:List UInt8}(h:FX kk B w0 bx v0 v1 v2 v3 v4 v5 v6 W v m) (k:Below W.heap.size W W'):FX kk B w0 bx v0 v1 v2 v3 v4 v5 v6 W' v m :=
 ⟨h.buf.below k,h.bw.trans (Bw.of k h.buf.2),(k.block bx (zc h.box)).trans h.box⟩
theorem FX.alloc {B:Nat}{w0:World}{bx:Nat}{v0 v1 v2 v3 v4 v5 v6:Value}{W:World}{v:Value}{m:List UInt8}(h:FX kk B w0 bx v0 v1 v2 v3 v4 v5 v6 W v m) (ob:Obj):FX kk B w0 bx v0 v1 v2 v3 v4 v5 v6 (W.alloc ob) v m:=h.old (zb _ _)
theorem FX.after {B:Nat}{w0:World}{bx:Nat}{v0 v1 v2 v3 v4 v5 v6:Value}{W W':World}{v v':Value}{m m':List UInt8}(h:FX kk B w0 bx v0 v1 v2 v3 v4 v5 v6 W v m) (hb:Buf kk W' B v' m') (hw:Bw kk B W W'):FX kk B w0 bx v0 v1 v2 v3 v4 v5 v6 W' v' m':=⟨hb,h.bw.trans hw,hw.keeps h.box (by decide)⟩
theorem FX.dr {B:Nat}{w0:World}{bx:Nat}{v0 v1 v2 v3 v4 v5 v6:Value}{W:World}{v:Value}{m:List UInt8}(h:FX kk B w0 bx v0 v1 v2 v3 v4 v5 v6 W v m):FX kk B w0 bx v0 v1 v2 v3 v4 v5 v6 W.drew v m:=h.old (zk W)
def SB (W:World) (sb:Nat) (x:ByteArray):Prop:=W.heap[sb]?=some (.cells #[.string x] 9 (0,0))
theorem SB.new (W:World) (x:ByteArray) (n:Nat) (hn:n=W.heap.size):SB (W.alloc (.cells #[.string x] 9)) n x:=by subst hn;exact zu _ _
theorem SB.alloc {W:World}{sb:Nat}{x:ByteArray}(h:SB W sb x) (ob:Obj):SB (W.alloc ob) sb x:=(Below.heap_alloc W ob sb (zc h)).trans h
theorem SB.dr {W:World}{sb:Nat}{x:ByteArray}(h:SB W sb x):SB W.drew sb x:=h
theorem SB.on {W W':World}{B sb:Nat}{x:ByteArray}(h:SB W sb x) (k:Bw kk B W W'):SB W' sb x:=k.keeps h (by decide)
theorem FX.all {B:Nat}{w0:World}{bx:Nat}{v0 v1 v2 v3 v4 v5 v6:Value}{W:World}{v:Value}{m:List UInt8}(h:FX kk B w0 bx v0 v1 v2 v3 v4 v5 v6 W v m) {sb:Nat}{x:ByteArray}{s:List UInt8}(hs:SB W sb x) (hx:Hid (x=bs s)) (hl:Hid ((m++s).length<=1000000000)) :
  Calls Tryz.prog 102 #[v,.slice (some ⟨sb,0,none⟩) 1 1] W fun e w'=>∃ v',e=.returned v'/\FX kk B w0 bx v0 v1 v2 v3 v4 v5 v6 w' v' (m++s)/\Bw kk B W w':=by
 have:=yF h.buf [s] sb 1 (by rw[hx.out]at hs;exact hs) (by simp) (by simpa using hl.out)
 refine this.mono ?_
 rintro e w' ⟨v',h1,h2,h3⟩
 exact⟨v',h1,h.after (by simpa using h2) h3,h3⟩
theorem FX.ex {B:Nat}{w0:World}{bx:Nat}{v0 v1 v2 v3 v4 v5 v6:Value}{W:World}{v:Value}{m:List UInt8}(h:FX kk B w0 bx v0 v1 v2 v3 v4 v5 v6 W v m) {y:X}{b:Nat}(hw:Tp.WX [y]) (hx:Hid (Ex1 w0 B y b)) (hr:Hid (Wr B w0)) (hl:Hid ((m++(Tp.pxs [y]).flatten).length<=1000000000)) :
  Calls Tryz.prog 111 #[v,.pointer (some ⟨b,0,none⟩)] W fun e w'=>∃ v',e=.returned v'/\FX kk B w0 bx v0 v1 v2 v3 v4 v5 v6 w' v' (m++(Tp.pxs [y]).flatten)/\Bw kk B W w':=by
 refine(ys _ y zn hw W B b v m (hx.out.on h.bw) h.buf (hr.out.on h.bw) hl.out).mono ?_
 rintro e w' ⟨v',h1,h2,h3⟩
 exact⟨v',h1,h.after h2 h3,h3⟩
theorem xO {N:Nat}(hE:StmtsW kk N) {pos d:Nat}{y:X}(hw:Tp.WX [y]) {th:List S}(hs:SizeOf.sizeOf th<=N) (hwt:Tp.WS th) {w:World}{B bx:Nat}{ta ea:Option Addr}{tc ec:Nat}{v:Value}{l:List UInt8}{cs:List Value}(hx:Ex1 w B y bx) (ht1:RepS w (fun i=>i<B) th cs) (ht2:OwnS w (fun i=>i<B) (.slice ta th.length tc) th.length cs) (hb:Buf kk w B v l) (hr:Wr B w) (hd:d+1+Tp.DS th<=500) (hl:(l++blanks d++[119,104,105,108,101,32]++(Tp.pxs [y]).flatten++[32,100,111,10]++(Tp.psts th (d+1)).flatten++blanks d++[101,110,100]++[59,10]).length<=1000000000) :
  Calls Tryz.prog 148 #[v,.agg #[.int .i64 3,.int .i64 (pos:Int),.string ⟨#[]⟩,.pointer none,.pointer (some ⟨bx,0,none⟩),.slice ta th.length tc,.slice ea 0 ec],.int .i64 (d:Int)] w (Wrote kk B w (l++blanks d++[119,104,105,108,101,32]++(Tp.pxs [y]).flatten++[32,100,111,10]++(Tp.psts th (d+1)).flatten++blanks d++[101,110,100]++[59,10])):=by
 have hd':(d:Int)<=500:=by omega
 have hal:∀ ob,Below w.heap.size w (w.alloc ob):=fun ob=>zb _ _
 have HBW:Hid (∀ ob,Bw kk B w (w.alloc ob)):=fun ob=>Bw.of (kk:=kk) (hal ob) hb.2
 have HC:Hid (∀ ob,Calls Tryz.prog 207 #[v,.int .i64 (d:Int)] (w.alloc ob) (Wrote kk B (w.alloc ob) (l++blanks d))):=fun ob=>zV (hb.below (hal ob)) d (by omega) (by simp only [List.length_append]at hl;omega)
 have HL:Hid ((l++blanks d++[119,104,105,108,101,32]++(Tp.pxs [y]).flatten++[32,100,111,10]++(Tp.psts th (d+1)).flatten++blanks d++[101,110,100]++[59,10]).length<=1000000000):=hl
 have HR:Hid (Wr B w):=hr
 obtain⟨mf,hmf⟩:∃ mf,mf=l++blanks d++[119,104,105,108,101,32]++(Tp.pxs [y]).flatten++[32,100,111,10]++(Tp.psts th (d+1)).flatten++blanks d++[101,110,100]++[59,10]:=⟨_,rfl⟩
 rw[<-hmf]
 have HMF:Hid (mf=l++blanks d++[119,104,105,108,101,32]++(Tp.pxs [y]).flatten++[32,100,111,10]++(Tp.psts th (d+1)).flatten++blanks d++[101,110,100]++[59,10]):=hmf
 have HX:Hid (Ex1 w B y bx):=hx
 have HTT:Hid (∀ W v' m,Bw kk B w W->Buf kk W B v' m->(m++(Tp.psts th (d+1)).flatten++blanks d++[101,110,100]).length<=1000000000->Calls Tryz.prog 208 #[v',.slice ta th.length tc,.int .i64 (d:Int)] W (Wrote kk B W (m++(Tp.psts th (d+1)).flatten++blanks d++[101,110,100]))):=fun W v' m hW hB hlm=>yX hE hs hwt (yS ht1 hW) (yU ht2 hW) hB (hr.on hW) hd hlm
 clear hmf hl hx hr hal hb ht1 ht2
 generalize th.length=tn at *
 go_enter Tryz.func148,Tryz.ntmps148
 go_wp2_with fail
 refine(HC.out _).mono ?_
 rintro e w3 ⟨v3,rfl,hbuf3,hbel3⟩
 have hblk:(w.alloc (.cells #[.int .i64 3,.int .i64 (pos:Int),.string ⟨#[]⟩,.pointer none,.pointer (some ⟨bx,0,none⟩),.slice ta tn tc,.slice ea 0 ec] 96)).heap[w.heap.size]?=some (.cells #[.int .i64 3,.int .i64 (pos:Int),.string ⟨#[]⟩,.pointer none,.pointer (some ⟨bx,0,none⟩),.slice ta tn tc,.slice ea 0 ec] 96 (0,0)):=zu _ _
 have F3:FX kk B w w.heap.size (.int .i64 3) (.int .i64 (pos:Int)) (.string ⟨#[]⟩) (.pointer none) (.pointer (some ⟨bx,0,none⟩)) (.slice ta tn tc) (.slice ea 0 ec) w3 v3 (l++blanks d):=⟨hbuf3,(HBW.out _).trans hbel3,hbel3.keeps hblk (by decide)⟩
 obtain⟨k0,k2,k3,k4,k5,k6⟩:=zH F3.box
 have hlt3:=zc F3.box
 clear hblk hbuf3 hbel3
 have D3:Hid (FX kk B w w.heap.size (.int .i64 3) (.int .i64 (pos:Int)) (.string ⟨#[]⟩) (.pointer none) (.pointer (some ⟨bx,0,none⟩)) (.slice ta tn tc) (.slice ea 0 ec) w3.drew v3 (l++blanks d)):=F3.old (zk w3)
 have H3:Hid (FX kk B w w.heap.size (.int .i64 3) (.int .i64 (pos:Int)) (.string ⟨#[]⟩) (.pointer none) (.pointer (some ⟨bx,0,none⟩)) (.slice ta tn tc) (.slice ea 0 ec) w3 v3 (l++blanks d)):=F3
 clear F3 k2 k3 k5 k6
 have L1:Hid ((l++blanks d++[119,104,105,108,101,32]).length<=1000000000):=by have:=HL.out;unfold Hid;simp only [List.length_append]at this ⊢;omega
 have L2:Hid ((l++blanks d++[119,104,105,108,101,32]++(Tp.pxs [y]).flatten).length<=1000000000):=by have:=HL.out;unfold Hid;simp only [List.length_append]at this ⊢;omega
 have L3:Hid ((l++blanks d++[119,104,105,108,101,32]++(Tp.pxs [y]).flatten++[32,100,111,10]).length<=1000000000):=by have:=HL.out;unfold Hid;simp only [List.length_append]at this ⊢;omega
 have X1:Hid ((⟨#[119,104,105,108,101,32]⟩:ByteArray)=bs [119,104,105,108,101,32]):=rfl
 have X2:Hid ((⟨#[32,100,111,10]⟩:ByteArray)=bs [32,100,111,10]):=rfl
 go_wp2_with fail
 go_region_held3 (fun w'=>w'.cell? ⟨w.heap.size,4,none⟩=some (.pointer (some ⟨bx,0,none⟩))) (with_reducible (first|exact k4|exact D3.out.c4|exact(H3.out.alloc _).dr.c4|exact((H3.out.alloc _).alloc _).dr.c4|exact(D3.out.alloc _).c4|exact((D3.out.alloc _).alloc _).c4|exact H5.out.c4|exact(H5.out.alloc _).c4|exact H6.out.c4|exact(H6.out.alloc _).c4|exact H7.out.c4)) (first|(go_at_call 111;refine Calls.mono (FX.ex (kk:=kk) (B:=B) (w0:=w) (bx:=w.heap.size) (v0:=.int .i64 3) (v1:=.int .i64 (pos:Int)) (v2:=.string ⟨#[]⟩) (v3:=.pointer none) (v4:=.pointer (some ⟨bx,0,none⟩)) (v5:=.slice ta tn tc) (v6:=.slice ea 0 ec) (m:=l++blanks d++[119,104,105,108,101,32]) (y:=y) ?f hw HX HR L2) ?_;(case f=>with_reducible (first|exact H5.out|exact H5.out.alloc _));rintro e w6 ⟨v6,rfl,f6,b6⟩;have H6:Hid (FX kk B w w.heap.size (.int .i64 3) (.int .i64 (pos:Int)) (.string ⟨#[]⟩) (.pointer none) (.pointer (some ⟨bx,0,none⟩)) (.slice ta tn tc) (.slice ea 0 ec) w6 v6 (l++blanks d++[119,104,105,108,101,32]++(Tp.pxs [y]).flatten)):=f6;have T6:=fun sb x (h:SB _ sb x)=>SB.on h b6;clear f6 b6)|(go_at_call 102;have _g:=H6;refine Calls.mono (FX.all (kk:=kk) (B:=B) (w0:=w) (bx:=w.heap.size) (v0:=.int .i64 3) (v1:=.int .i64 (pos:Int)) (v2:=.string ⟨#[]⟩) (v3:=.pointer none) (v4:=.pointer (some ⟨bx,0,none⟩)) (v5:=.slice ta tn tc) (v6:=.slice ea 0 ec) (m:=l++blanks d++[119,104,105,108,101,32]++(Tp.pxs [y]).flatten) (s:=[32,100,111,10]) ?f ?sb X2 L3) ?_;(case f=>with_reducible (first|exact H6.out|exact H6.out.alloc _));(case sb=>with_reducible (first|exact SB.new _ _ _ rfl|exact T6 _ _ (SB.new _ _ _ rfl)|exact T6 _ _ (T5 _ _ (SB.new _ _ _ rfl).dr)|exact T6 _ _ (T5 _ _ (SB.new _ _ _ (by simp)).dr)|exact T6 _ _ (T5 _ _ ((SB.new _ _ _ rfl).alloc _).dr)));rintro e w7 ⟨v7,rfl,f7,b7⟩;have H7:Hid (FX kk B w w.heap.size (.int .i64 3) (.int .i64 (pos:Int)) (.string ⟨#[]⟩) (.pointer none) (.pointer (some ⟨bx,0,none⟩)) (.slice ta tn tc) (.slice ea 0 ec) w7 v7 (l++blanks d++[119,104,105,108,101,32]++(Tp.pxs [y]).flatten++[32,100,111,10])):=f7;clear f7 b7 _g)|(go_at_call 102;refine Calls.mono (FX.all (kk:=kk) (B:=B) (w0:=w) (bx:=w.heap.size) (v0:=.int .i64 3) (v1:=.int .i64 (pos:Int)) (v2:=.string ⟨#[]⟩) (v3:=.pointer none) (v4:=.pointer (some ⟨bx,0,none⟩)) (v5:=.slice ta tn tc) (v6:=.slice ea 0 ec) (m:=l++blanks d) (s:=[119,104,105,108,101,32]) ?f ?sb X1 L1) ?_;(case f=>with_reducible (first|exact(H3.out.alloc _).dr|exact((H3.out.alloc _).alloc _).dr|exact D3.out.alloc _|exact(D3.out.alloc _).alloc _));(case sb=>with_reducible (first|exact(SB.new _ _ _ rfl).dr|exact(SB.new _ _ _ (by simp)).dr|exact((SB.new _ _ _ rfl).alloc _).dr|exact((SB.new _ _ _ (by simp)).alloc _).dr));rintro e w5 ⟨v5,rfl,f5,b5⟩;have H5:Hid (FX kk B w w.heap.size (.int .i64 3) (.int .i64 (pos:Int)) (.string ⟨#[]⟩) (.pointer none) (.pointer (some ⟨bx,0,none⟩)) (.slice ta tn tc) (.slice ea 0 ec) w5 v5 (l++blanks d++[119,104,105,108,101,32])):=f5;have T5:=fun sb x (h:SB _ sb x)=>SB.on h b5;clear f5 b5))
 all_goals
  obtain⟨j0,j2,j3,j4,j5,j6⟩:=zH H7.out.box
  have hlt7:=zc H7.out.box
  have j1:w7.cell? ⟨w.heap.size,1,none⟩=some (.int .i64 (pos:Int)):=(za H7.out.box).trans rfl
  have hcall:=HTT.out w7 v7 _ H7.out.bw H7.out.buf (by have:=HL.out;simp only [List.length_append]at this ⊢;omega)
  have HT9:Hid (Calls Tryz.prog 208 #[v7,.slice ta tn tc,.int .i64 (d:Int)] w7 (Wrote kk B w7 (l++blanks d++[119,104,105,108,101,32]++(Tp.pxs [y]).flatten++[32,100,111,10]++(Tp.psts th (d+1)).flatten++blanks d++[101,110,100]))):=hcall
  clear hcall
  go_wp2_with fail
  refine HT9.out.mono ?_
  rintro e wZ ⟨vZ,rfl,hbufZ,hbelZ⟩
  have hBZ:=H7.out.bw.trans hbelZ
  have hcall:=addAll1 hbufZ [59,10] (by have:=HL.out;simp only [List.length_append]at this ⊢;omega)
  rw[show l++blanks d++[119,104,105,108,101,32]++(Tp.pxs [y]).flatten++[32,100,111,10]++(Tp.psts th (d+1)).flatten++blanks d++[101,110,100]++[59,10]=mf from HMF.out.symm]at hcall
  have HA9:Hid (Calls Tryz.prog 102 #[vZ,.slice (some ⟨wZ.heap.size,0,none⟩) 1 1] (wZ.alloc (.cells #[.string ⟨#[59,10]⟩] 9)) (Wrote kk B wZ mf)):=hcall
  clear hcall hbufZ
  go_wp2_with fail
  refine HA9.out.mono ?_
  rintro e w9 ⟨v9,rfl,hbuf9,hbel9⟩
  have HB:Hid (Buf kk w9 B v9 mf):=hbuf9
  have HBB:Hid (Bw kk B w w9):=hBZ.trans hbel9
  clear hbuf9
  go_wp2_with fail
  go_ret
  exact⟨_,rfl,HB.out,HBB.out⟩
end Go.Proofs.YthnoedjbhbkdeaaGreatDoor
