import Derived.Test.YtmocelfkmdpogaaGreatDoorKMe
import Derived.Test.YtmocelfkmdpogaaGreatDoorKMf
set_option maxRecDepth 100000
set_option maxHeartbeats 4000000
namespace Tp
open Ob (In O instB rightB I64)
def Pu (x:In):Prop:=x.op=1->0<=x.a/\x.a<=9223372036854775807
theorem yh {l r:List In}(hl:∀ x∈l,Pu x) (hr:∀ x∈r,Pu x):∀ x∈l++r,Pu x:=fun x hx=>(List.mem_append.1 hx).elim (hl x) (hr x)
theorem zP {y:In}{l:List In}(hy:Pu y) (hl:∀ x∈l,Pu x):∀ x∈y :: l,Pu x:=fun x hx=>(List.mem_cons.1 hx).elim (fun e=>e ▸ hy) (hl x)
theorem yt:∀ x∈([]:List In),Pu x:=fun _ h=>by cases h
theorem yB {op a b:Int}(h:op≠1):Pu ⟨op,a,b⟩:=fun e=>absurd e h
theorem xZ (c:Cn) {op:Int}(h:op≠1) (md nm:Bs):Pu (reachI c op md nm):=by
 unfold reachI
 split
 ·exact yB h
 ·split <;> exact yB h
theorem pu_value (c:Cn) (md nm:Bs):Pu (valueI c md nm):=by
 unfold valueI
 split
 ·exact yB (by decide)
 ·exact xZ c (by decide) _ _
theorem pu_set (c:Cn) (nm:Bs) (b:Bool):Pu (setI c nm b):=by
 unfold setI
 split
 ·exact yB (by decide)
 ·cases b <;> exact yB (by decide)
theorem pu_cX (c:Cn):∀(N k:Nat) (l:List X),SizeOf.sizeOf l<=N->WX l->∀ x∈cX c k l,Pu x:=by
 intro N
 induction N with
 | zero =>
  intro k l h
  match l with
  | []=>intro _;rw[cX_nil];exact yt
  | a :: t=>simp at h
 | succ N ih =>
  intro k l h hw
  match l with
  | []=>rw[cX_nil];exact yt
  | ⟨code,pos,n,md,nm,op,le,ri,ar⟩ :: xs =>
   simp only [List.cons.sizeOf_spec,X.mk.sizeOf_spec]at h
   rw[WX]at hw
   obtain⟨h1,h2⟩:=hw
   rw[cX_cons]
   refine yh ?_ (ih _ xs (by omega) h2)
   rcases h1 with⟨rfl,hn,_⟩|⟨rfl,_⟩|⟨rfl,_,_,_,hl,_⟩|⟨rfl,_,_,_,_,hl,_⟩|⟨rfl,_,_,_,_,hl,_,hw',_⟩|⟨rfl,_,_,_,_,_,ha⟩
   ·have hn':(n:Int)<=9223372036854775807:=by unfold top at hn;omega
    exact zP (fun _=>⟨by simp only;omega,hn'⟩) yt
   ·exact zP (pu_value c md nm) yt
   ·have e:oneX c k 3 n md nm op le ri ar=cX c k le++[reachI c 7 md nm]:=by simp[oneX]
    rw[e]
    exact yh (ih k le (by omega) hl) (zP (xZ c (by decide) _ _) yt)
   ·have e:oneX c k 4 n md nm op le ri ar=cX c k le++[if op=wNot then ⟨11,0,0⟩ else ⟨10,0,0⟩]:=by simp[oneX]
    rw[e]
    refine yh (ih k le (by omega) hl) (zP ?_ yt)
    split <;> exact yB (by decide)
   ·by_cases e1:op=wAnd
    ·have e:oneX c k 5 n md nm op le ri ar=andI k (cX c k le) (cX c (k+(cX c k le).length+1) ri):=by simp[oneX,e1]
     rw[e]
     unfold andI
     exact yh (yh (ih k le (by omega) hl) (zP (yB (by decide)) (ih _ ri (by omega) hw'))) (zP (yB (by decide)) (zP (yB (by decide)) (zP (yB (by decide)) (zP (fun _=>⟨by simp,by simp⟩) yt))))
    ·by_cases e2:op=wOr
     ·have e:oneX c k 5 n md nm op le ri ar=orI k (cX c k le) (cX c (k+(cX c k le).length+3) ri):=by simp[oneX,e2,show wOr≠wAnd by decide]
      rw[e]
      unfold orI
      exact yh (yh (ih k le (by omega) hl) (zP (yB (by decide)) (zP (fun _=>⟨by simp,by simp⟩) (zP (yB (by decide)) (ih _ ri (by omega) hw'))))) (zP (yB (by decide)) (zP (yB (by decide)) yt))
     ·have e:oneX c k 5 n md nm op le ri ar=cX c k le++cX c (k+(cX c k le).length) ri++[⟨9,idx marks5 op,0⟩]:=by simp[oneX,e1,e2]
      rw[e]
      exact yh (yh (ih k le (by omega) hl) (ih _ ri (by omega) hw')) (zP (yB (by decide)) yt)
   ·have e:oneX c k 6 n md nm op le ri ar=cX c k ar++[reachI c 14 md nm]:=by simp[oneX]
    rw[e]
    exact yh (ih k ar (by omega) ha) (zP (xZ c (by decide) _ _) yt)
theorem pu_cS (c:Cn):∀(N k:Nat) (l:List S),SizeOf.sizeOf l<=N->WS l->∀ x∈cS c k l,Pu x:=by
 intro N
 induction N with
 | zero =>
  intro k l h
  match l with
  | []=>intro _;rw[cS_nil];exact yt
  | a :: t=>simp at h
 | succ N ih =>
  intro k l h hw
  match l with
  | []=>rw[cS_nil];exact yt
  | ⟨code,pos,nm,ix,vl,th,el⟩ :: ss =>
   simp only [List.cons.sizeOf_spec,S.mk.sizeOf_spec]at h
   rw[WS]at hw
   obtain⟨h1,h2⟩:=hw
   rw[cS_cons]
   refine yh ?_ (ih _ ss (by omega) h2)
   have V:=fun (q:ev vl) j=>pu_cX c _ j vl (Nat.le_refl _) q.1
   rcases h1 with⟨rfl,_,hi',hv,_⟩|⟨rfl,_,_,hv,ht,he⟩|⟨rfl,_,_,hv,ht,_⟩|⟨hc,_,_,hv,_⟩|⟨rfl,_,_,hv,_⟩
   ·have e:oneS c k 1 nm ix vl th el=(cX c k ix++cX c (k+(cX c k ix).length) vl)++[setI c nm (!ix.isEmpty)]:=by simp[oneS]
    rw[e]
    refine yh (yh ?_ (V hv _)) (zP (pu_set c _ _) yt)
    rcases hi' with rfl|⟨hi',_⟩
    ·rw[cX_nil];exact yt
    ·exact pu_cX c _ k ix (Nat.le_refl _) hi'
   ·have e:oneS c k 2 nm ix vl th el=ifI k (cX c k vl) (cS c (k+(cX c k vl).length+1) th) (cS c (k+(cX c k vl).length+(cS c (k+(cX c k vl).length+1) th).length+2) el) el.isEmpty:=by simp[oneS]
    rw[e]
    unfold ifI
    split
    ·exact yh (V hv _) (zP (yB (by decide)) (ih _ th (by omega) ht))
    ·exact yh (yh (V hv _) (zP (yB (by decide)) (ih _ th (by omega) ht))) (zP (yB (by decide)) (ih _ el (by omega) he))
   ·have e:oneS c k 3 nm ix vl th el=whileI k (cX c k vl) (cS c (k+(cX c k vl).length+1) th):=by simp[oneS]
    rw[e]
    unfold whileI
    exact yh (yh (V hv _) (zP (yB (by decide)) (ih _ th (by omega) ht))) (zP (yB (by decide)) yt)
   ·rcases hc with rfl|rfl
    ·have e:oneS c k 4 nm ix vl th el=cX c k vl++[⟨15,0,0⟩]:=by simp[oneS]
     rw[e]
     exact yh (V hv _) (zP (yB (by decide)) yt)
    ·have e:oneS c k 5 nm ix vl th el=cX c k vl++[⟨16,0,0⟩]:=by simp[oneS]
     rw[e]
     exact yh (V hv _) (zP (yB (by decide)) yt)
   ·have e:oneS c k 6 nm ix vl th el=cX c k vl++[⟨2,0,0⟩]:=by simp[oneS]
    rw[e]
    exact yh (V hv _) (zP (yB (by decide)) yt)
theorem pu_cP {m:M}{uF:Bs->List Bs}:∀(ps:List Pr) (k:Nat),(∀ p∈ps,WP p)->∀ x∈cP m uF k ps,Pu x:=by
 intro ps
 induction ps with
 | nil=>intro k _ x hx;cases hx
 | cons p ps ih =>
  intro k hs
  rw[cP]
  refine yh ?_ (ih _ fun q hq=>hs q (List.mem_cons_of_mem _ hq))
  unfold bodyP
  exact yh (pu_cS _ _ k p.body (Nat.le_refl _) (hs p (by simp)).b) (zP (fun _=>⟨by simp,by simp⟩) (zP (yB (by decide)) yt))
theorem pu_code {m:M}(hm:WM m) (uF:Bs->List Bs):∀ x∈codeC m uF,Pu x:=by
 unfold codeC headC
 exact yh (yh (pu_cS _ _ 0 m.body (Nat.le_refl _) hm.b) (zP (yB (by decide)) yt)) (pu_cP _ _ hm.p)
theorem code_i64 {o:O}(h:rightB o=true) (hp:∀ x∈o.code,Pu x):∀ x∈o.code,I64 x.a:=by
 unfold rightB at h
 simp only [Bool.and_eq_true]at h
 obtain⟨h1,h2,h3⟩:=h
 unfold Ob.headB at h1
 simp only [Bool.and_eq_true]at h1
 obtain⟨_,_,u1,v1⟩:=h1
 unfold Ob.procsB at h2
 simp only [Bool.and_eq_true,decide_eq_true_eq]at h2
 obtain⟨p1,_⟩:=h2
 unfold Ob.codeB at h3
 simp only [Bool.and_eq_true]at h3
 obtain⟨c1,_⟩:=h3
 obtain⟨_,u⟩:=Ob.allB_le u1
 obtain⟨vl,_⟩:=Ob.allB_le v1
 obtain⟨pl,_⟩:=Ob.allB_le p1
 obtain⟨cl,c⟩:=Ob.allB_le c1
 have hun:∀ y∈o.uses,y.names.length<=100:=by
  intro y hy
  have:=u y hy
  unfold Ob.otherB Ob.useB at this
  simp only [Bool.and_eq_true]at this
  exact(Ob.allB_le this.2.2.2).1
 have hr:∀ x own,own<=10->Ob.reachB o x own=true->I64 x.a:=by
  intro x own ho h
  unfold Ob.reachB at h
  split at h
  ·simp only [Ob.countsB,Bool.and_eq_true,decide_eq_true_eq]at h
   unfold I64;omega
  ·simp only [Ob.countsB,Bool.and_eq_true,decide_eq_true_eq]at h
   have hl:((o.uses[x.b.toNat]?.map fun u=>u.names.length).getD 0)<=100:=by
    rcases hq:o.uses[x.b.toNat]? with _|y
    ·simp
    ·simpa using hun y (List.mem_of_getElem? hq)
   unfold I64;omega
 intro x hx
 have hi:=c x hx
 by_cases h1:x.op=1
 ·have:=hp x hx h1
  unfold I64;omega
 ·unfold instB at hi
  split at hi
  ·exact hr x _ vl hi
  ·split at hi
   ·exact hr x _ pl hi
   ·simp only [Ob.countsB,Bool.and_eq_true,decide_eq_true_eq]at hi
    have:=Ob.choices_le o x.op vl cl
    unfold I64;omega
end Tp
namespace Go.Proofs.YtmocelfkmdpogaaGreatDoor
open Go.RowKit
open Tp (Bs Sy Seen)
theorem long_post (n:List UInt8) (w:World):Calls Tryz.prog 17 #[.string (bs n)] w fun e w'=>e=.returned (.bool (decide (900<n.length)))/\w'=w:=by
 by_cases h:900<n.length
 ·have hs:(900:Int)<((bs n).size:Int):=by rw[yn];omega
  rw[decide_eq_true h]
  go_enter Tryz.func17,Tryz.ntmps17
  go_wp2_with fail
  go_ret
  exact⟨by first|rfl|simp[hs],rfl⟩
 ·have hs:¬(900:Int)<((bs n).size:Int):=by rw[yn];omega
  rw[decide_eq_false h]
  go_enter Tryz.func17,Tryz.ntmps17
  go_wp2_with fail
  go_ret
  exact⟨by first|rfl|(simp;omega),rfl⟩
theorem qE {w:World}{ns:List (List UInt8)}{na:Option Addr}{nc:Nat}(hns:StrsAt w ns na) (hnn:ns.length<=1000) :
  Calls Tryz.prog 47 #[.slice na ns.length nc,.func (.func 17) #[] #[]] w fun e w'=>(∃ k:Int,e=.returned (.int .i64 k)/\((0<=k/\k<=1000)\/k=-1/\∀ n∈ns,n.length<=900))/\w'=w:=by
 have hnn':(ns.length:Int)<=1000:=by omega
 have HNS:=zh hns
 obtain⟨nn,hnq⟩:∃ nn,nn=ns.length:=⟨_,rfl⟩
 rw[<-hnq]at hnn' ⊢
 have HNQ:=zh hnq
 clear hns hnq
 go_enter Tryz.func47,Tryz.ntmps47
 go_wp2_with fail
 go_loopg [8] nn (fun k vi wr=>∃ i:Nat,i<=nn/\k=nn - i/\vi=.int .i64 (i:Int)/\Hid (∀ k (hk:k<ns.length),k<i->ns[k].length<=900)/\wr=w)
 case atStart=>exact⟨0,by omega,by omega,rfl,fun k _ hk=>by omega,rfl⟩
 case round =>
  obtain⟨i,hid,hk,rfl,HI,rfl⟩:=hrel
  by_cases hlt:i<nn
  ·have hlt':(i:Int)<(nn:Int):=by omega
   have hia:i<ns.length:=by have:=HNQ.out;omega
   obtain⟨b,o,rfl,hbl,hcell⟩:=HNS.out.c i hia
   have HF:=zh (long_post ns[i] wr)
   have HNX:Hid (¬900<ns[i].length->∀ k (hk:k<ns.length),k<i+1->ns[k].length<=900):=by
    intro hne k hk hlt
    by_cases e:k=i
    ·subst e;omega
    ·exact HI.out k hk (by omega)
   generalize ns[i]=x at *
   go_wp2_with fail
   refine HF.out.mono ?_
   rintro e w3 ⟨rfl,rfl⟩
   by_cases hx:900<x.length
   ·rw[decide_eq_true hx]
    go_wp2_with fail
    go_ret
    exact⟨⟨(i:Int),rfl,Or.inl ⟨by omega,by omega⟩⟩,rfl⟩
   ·rw[decide_eq_false hx]
    have HI3:=zh (HNX.out hx)
    go_wp2_with fail
    go_roundg (nn - (i+1))
    case measure=>omega
    case rel=>exact⟨i+1,by omega,rfl,by go_num,HI3,rfl⟩
  ·have hlt':¬(i:Int)<(nn:Int):=by omega
   have hall:∀ n∈ns,n.length<=900:=by
    intro n hn
    obtain⟨k,hk,rfl⟩:=List.getElem_of_mem hn
    exact HI.out k hk (by have:=HNQ.out;omega)
   go_wp2_with fail
   go_ret
   exact⟨⟨-1,rfl,Or.inr ⟨rfl,hall⟩⟩,rfl⟩
theorem contF_post {w:World}{ns:List (List UInt8)}{na:Option Addr}{nc:Nat}(hns:StrsAt w ns na) (hnn:ns.length<=1000) :
  Calls Tryz.prog 16 #[.slice na ns.length nc,.func (.func 17) #[] #[]] w fun e w'=>(e=.returned (.bool true)\/e=.returned (.bool false)/\∀ n∈ns,n.length<=900)/\w'=w:=by
 have HC:=zh (qE (nc:=nc) hns hnn)
 clear hns
 generalize ns.length=nn at *
 go_enter Tryz.func16,Tryz.ntmps16
 go_wp2_with fail
 refine HC.out.mono ?_
 rintro e w1 ⟨⟨k,rfl,hk⟩,rfl⟩
 rcases hk with⟨h1,h2⟩|⟨rfl,h2⟩
 ·go_wp2_with fail
  go_ret
  exact⟨Or.inl (by first|rfl|simp[h1]),rfl⟩
 ·have H2:=zh h2
  go_wp2_with fail
  go_ret
  exact⟨Or.inr ⟨rfl,H2.out⟩,rfl⟩
theorem short_post {w:World}{ns:List (List UInt8)}{na:Option Addr}{nc:Nat}(hns:StrsAt w ns na) :
  Calls Tryz.prog 4 #[.slice na ns.length nc] w fun e w'=>(e=.returned (.bool false)\/e=.returned (.bool true)/\ns.length<=5/\∀ n∈ns,n.length<=900)/\w'=w:=by
 by_cases h5:ns.length<=5
 ·have h5':(ns.length:Int)<=5:=by omega
  have HC:=zh (contF_post (nc:=nc) hns (by omega))
  have H5:=zh h5
  clear hns h5
  obtain⟨nn,hnq⟩:∃ nn,nn=ns.length:=⟨_,rfl⟩
  rw[<-hnq]at h5' HC ⊢
  have HNQ:=zh hnq
  clear hnq
  go_enter Tryz.func4,Tryz.ntmps4
  go_wp2_with fail
  refine HC.out.mono ?_
  rintro e w1 ⟨hk,rfl⟩
  rcases hk with rfl|⟨rfl,hall⟩
  ·go_wp2_with fail
   go_ret
   exact⟨Or.inl rfl,rfl⟩
  ·have HALL:=zh hall
   clear hall
   go_wp2_with fail
   go_ret
   exact⟨Or.inr ⟨rfl,by rw[HNQ.out];exact H5.out,HALL.out⟩,rfl⟩
 ·have h5':¬(ns.length:Int)<=5:=by omega
  clear h5 hns
  generalize ns.length=nn at *
  go_enter Tryz.func4,Tryz.ntmps4
  go_wp2_with fail
  go_ret
  exact⟨Or.inl rfl,rfl⟩
def seenF (Sn:Seen) (n:Bs):Seen:=match Tp.parse n with
 | .ok m=>fun k=>if k=m.name then some (srt (Tp.symsOf m)) else Sn k
 | .error _=>Sn
def seenOf (ns:List Bs):Seen:=ns.foldl seenF (fun _=>none)
theorem qm {ns:List Bs}{i:Nat}(h:i<ns.length):seenOf (ns.take (i+1))=seenF (seenOf (ns.take i)) ns[i]:=by
 unfold seenOf
 rw[List.take_succ_eq_append_getElem h,List.foldl_append]
 rfl
theorem syms_len {m:Tp.M}(hm:Tp.WM m):(srt (Tp.symsOf m)).length<=1000:=by
 rw[kj]
 unfold Tp.symsOf
 have h1:=List.length_filter_le (fun g:Tp.G=>g.seen) m.vars
 have h2:=List.length_filter_le (fun p:Tp.Pr=>p.seen) m.procs
 have:=hm.gc
 have:=hm.pc
 simp only [List.length_append,List.length_map]
 omega
theorem seen_put {wr w5 w6:World}{sb c i B:Nat}{Sn Sn':Seen}{f:Bs->Option Value}{x:Bs}{v:Value}{l:List Sy}(hS:Sn'=fun k=>if k=x then some l else Sn k) (hc:c<=i) (hf:MapV wr sb c f) (h:∀ k,match Sn k with
 | none=>f k=none
 | some l=>∃ v,f k=some v/\SL wr 0 v l/\l.length<=1000) (hb:Below wr.heap.size wr w5) (hv:SL w5 B v l) (hl:l.length<=1000) (q1:MapV w6 sb (c+1) (updV f x v)) (q2:Ext sb w5 w6):∃ c,c<=i+1/\SeenM w6 sb c Sn':=by
 rw[hS]
 refine⟨c+1,by omega,SeenM.store (hf.on (hb.block _ hf.lt)) (fun k=>?_) (l:=l) ?_ hl q1 q2⟩
 ·have:=h k
  cases hq:Sn k with
  | none=>rw[hq]at this;exact this
  | some ll=>rw[hq]at this;obtain⟨u,a,b,d⟩:=this;exact⟨u,a,b.on hb,d⟩
 ·rcases hv with q|⟨g,cap,a,_,b⟩
  ·exact Or.inl q
  ·exact Or.inr ⟨g,cap,a,Nat.zero_le _,b⟩
theorem syms_post {w:World}{B:Nat}(hv:VarsC B w) (hB:B<=w.heap.size) {ns:List (List UInt8)}{na:Option Addr}{nc:Nat}(hns:StrsAt w ns na) (hn5:ns.length<=5) (hnl:∀ n∈ns,n.length<=900) :
  Calls Tryz.prog 7 #[.slice na ns.length nc] w fun e w'=>∃ sb,e=.returned (.map (some sb))/\w.heap.size<=sb/\(∃ k,k<=10/\SeenM w' sb k (seenOf ns))/\Below w.heap.size w w':=by
 have hmm:=@run_makeMap Tryz.prog
 have hsm:SeenM (w.alloc (.map #[] 0)) w.heap.size 0 (seenOf (ns.take 0)):=⟨_,MapV.made w,fun k=>by simp[seenOf]⟩
 have hbl:∃ es c,(w.alloc (.map #[] 0)).heap[w.heap.size]?=some (.map es c):=⟨_,_,zk _ _⟩
 have hbe:Below w.heap.size w (w.alloc (.map #[] 0)):=zb _ _
 have hsz0:(w.alloc (.map #[] 0)).heap.size=w.heap.size+1:=by simp
 have HSM:=zh hsm
 have HBE:=zh hbe
 have HNS:=zh hns
 have HNL:=zh hnl
 have HV:=zh hv
 have hn5':(ns.length:Int)<=5:=by omega
 obtain⟨nn,hnq⟩:∃ nn,nn=ns.length:=⟨_,rfl⟩
 rw[<-hnq]at hn5' ⊢
 have HNQ:=zh hnq
 clear hsm hbe hns hnl hv hnq hbl
 go_enter Tryz.func7,Tryz.ntmps7
 go_wp2_with fail
 generalize w.alloc (.map #[] 0)=w0 at *
 clear hmm
 go_loopg [4] nn (fun k vi wr=>∃ i:Nat,i<=nn/\k=nn - i/\vi=.int .i64 (i:Int)/\Hid (∃ c,c<=i/\SeenM wr w.heap.size c (seenOf (ns.take i)))/\Hid (Ext w.heap.size w0 wr))
 case atStart=>exact⟨0,by omega,by omega,rfl,⟨0,Nat.le_refl _,HSM.out⟩,Ext.refl _ _⟩
 case round =>
  obtain⟨i,hid,hk,rfl,HTM,HE⟩:=hrel
  have hsz:=HE.out.size
  have HBR:Hid (Below w.heap.size w wr):=HBE.out.trans (zR HE.out zn (by omega))
  by_cases hlt:i<nn
  ·have hlt':(i:Int)<(nn:Int):=by omega
   have hia:i<ns.length:=by have:=HNQ.out;omega
   obtain⟨b,o,rfl,hbl,hcell⟩:=HNS.out.c i hia
   have kc:wr.cell? ⟨b,o+i,none⟩=some (.string (bs ns[i])):=(HBR.out.cell (p:=⟨b,o+i,none⟩) hbl).trans hcell
   have hlgr:b<wr.heap.size:=by have:=HBR.out.size;omega
   have hxl:=HNL.out _ (List.getElem_mem hia)
   have hvr:=HV.out.on' hB HBR.out
   have HPP:=zh (kG wr ns[i] (by omega) hvr.mks hvr.lv)
   have HSO:=zh (qm hia)
   clear hcell hvr
   generalize ns[i]=x at *
   cases hpx:Tp.parse x with
   | error er =>
    have HPX:=zh hpx
    have HSO2:Hid (seenOf (ns.take (i+1))=seenOf (ns.take i)):=by unfold Hid;rw[HSO.out];unfold seenF;rw[hpx]
    clear hpx
    go_wp2_with fail
    refine HPP.out.mono ?_
    rintro e w2 ⟨hb2,hq⟩
    unfold ParseP at hq
    rw[HPX.out]at hq
    obtain⟨ab,rfl,_,_,_⟩:=hq
    unfold m0
    have HT2:Hid (∀ ob,∃ c,c<=i+1/\SeenM (w2.alloc ob) w.heap.size c (seenOf (ns.take (i+1)))):=by
     intro ob
     obtain⟨c,c1,c2⟩:=HTM.out
     rw[HSO2.out]
     exact⟨c,by omega,(c2.on hb2).on (zb _ _)⟩
    have HE2:Hid (∀ ob,Ext w.heap.size w0 (w2.alloc ob)):=fun ob=>(HE.out.trans (Ext.below hb2)).trans (Ext.below (zb _ _))
    clear hb2
    go_wp2_with fail
    go_roundg (nn - (i+1))
    case measure=>omega
    case rel=>exact⟨i+1,by omega,rfl,by go_num,HT2.out _,HE2.out _⟩
   | ok m =>
    have HPX:=zh hpx
    have hwm:=(Tp.parse_wm hpx).1
    have HWM:=zh hwm
    have hgc:=hwm.gc
    have hpc:=hwm.pc
    have hnml:m.name.length<=1000000:=by have:=hwm.n.2.2;omega
    have HSO2:Hid (seenOf (ns.take (i+1))=fun k=>if k=m.name then some (srt (Tp.symsOf m)) else seenOf (ns.take i) k):=by unfold Hid;rw[HSO.out];unfold seenF;rw[hpx]
    clear hpx hwm
    go_wp2_with fail
    refine HPP.out.mono ?_
    rintro e w2 ⟨hb2,hq⟩
    unfold ParseP at hq
    rw[HPX.out]at hq
    obtain⟨v,rfl,hvm⟩:=hq
    obtain⟨ia,ga,pa,ba,ic,gc,pc,bc,rfl,hmb⟩:=hvm.mb
    obtain⟨w3,hw3⟩:∃ w3,w3=w2.alloc (.cells (mcells (bs m.name) (.slice ia m.imports.length ic) (.slice ga m.vars.length gc) (.slice pa m.procs.length pc) (.slice ba m.body.length bc)) 29):=⟨_,rfl⟩
    have hb3:Below w2.heap.size w2 w3:=by rw[hw3];exact zb _ _
    have hk3:w3.heap[w2.heap.size]?=some (.cells (mcells (bs m.name) (.slice ia m.imports.length ic) (.slice ga m.vars.length gc) (.slice pa m.procs.length pc) (.slice ba m.body.length bc)) 29 (0,0)):=by rw[hw3];exact zk _ _
    have hs3:w2.heap.size<w3.heap.size:=zi hk3
    have hmb3:=hmb.up hb3
    have HO3:=zh (of_post hgc hpc (hmb3.up ((Below.refl _ _).drew)))
    have HB3:Hid (Below wr.heap.size wr w3):=hb2.trans (hb3.mono hb2.size)
    have HS3:Hid (∀ W:World,W.heap[w2.heap.size]?=w3.heap[w2.heap.size]?->W.cell? ⟨w2.heap.size,0,none⟩=some (.string (bs m.name))/\W.cell? ⟨w2.heap.size,1,none⟩=some (.slice ia m.imports.length ic)/\W.cell? ⟨w2.heap.size,2,none⟩=some (.slice ga m.vars.length gc)/\W.cell? ⟨w2.heap.size,3,none⟩=some (.slice pa m.procs.length pc)/\W.cell? ⟨w2.heap.size,4,none⟩=some (.slice ba m.body.length bc)):=fun W hW=>zG (hW.trans hk3)
    have hszr:w.heap.size<w2.heap.size:=by have:=hb2.size;have:=HBR.out.size;omega
    clear hvm hmb hmb3 hb2 hb3 hk3
    simp only [mcells]at hw3 HO3 ⊢
    go_upto_region 6 with fail
    rw[<-hw3]
    clear hw3
    go_wp2_with fail
    go_region_held3 (fun W=>W.cell? ⟨w2.heap.size,0,none⟩=some (.string (bs m.name))/\W.cell? ⟨w2.heap.size,1,none⟩=some (.slice ia m.imports.length ic)/\W.cell? ⟨w2.heap.size,2,none⟩=some (.slice ga m.vars.length gc)/\W.cell? ⟨w2.heap.size,3,none⟩=some (.slice pa m.procs.length pc)/\W.cell? ⟨w2.heap.size,4,none⟩=some (.slice ba m.body.length bc)) (first|exact HS3.out _ rfl|exact HS3.out _ HX5.out|exact HS3.out _ HX6.out|fail "KEEP") (first|(go_at_call 25;refine HO3.out.mono ?_;rintro e w5 ⟨v5,rfl,hb5,hsl⟩;have hb5':Below w3.heap.size w3 w5:=((Below.refl _ _).drew).trans hb5;have HX5:Hid (w5.heap[w2.heap.size]?=w3.heap[w2.heap.size]?):=hb5'.block _ hs3;obtain⟨c,c1,f,c2,c3⟩:=HTM.out;have HB5:Hid (Below wr.heap.size wr w5):=HB3.out.trans (hb5'.mono HB3.out.size);obtain⟨w6,hup,q1,q2,q3⟩:=(c2.on (HB5.out.block _ c2.lt)).store (t:=34) Tryz.underlying34 (by omega) m.name hnml v5;have HX6:Hid (w6.heap[w2.heap.size]?=w3.heap[w2.heap.size]?):=(q2.block _ (by have:=hb5'.size;omega) (by omega)).trans HX5.out;have HSM6:Hid (∃ c,c<=i+1/\SeenM w6 w.heap.size c (seenOf (ns.take (i+1)))):=seen_put HSO2.out c1 c2 c3 HB5.out hsl (syms_len HWM.out) q1 q2;have HE6:Hid (Ext w.heap.size w0 w6):=(HE.out.trans (Ext.below HB5.out)).trans q2;clear hb5 hb5' hsl c2 c3 q1 q2 q3))
    go_wp2_with fail
    go_roundg (nn - (i+1))
    case measure=>omega
    case rel=>exact⟨i+1,by omega,rfl,by go_num,HSM6,HE6⟩
  ·have hlt':¬(i:Int)<(nn:Int):=by omega
   have hei:i=ns.length:=by have:=HNQ.out;omega
   have HF:Hid (∃ c,c<=10/\SeenM wr w.heap.size c (seenOf ns)):=by
    obtain⟨c,c1,c2⟩:=HTM.out
    rw[hei,List.take_length]at c2
    exact⟨c,by omega,c2⟩
   clear hei
   go_wp2_with fail
   go_ret
   exact⟨_,rfl,Nat.le_refl _,HF.out,HBR.out⟩
end Go.Proofs.YtmocelfkmdpogaaGreatDoor
