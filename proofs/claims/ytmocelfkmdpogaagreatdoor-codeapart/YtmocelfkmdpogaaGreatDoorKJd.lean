import Derived.Test.YtmocelfkmdpogaaGreatDoorKJc
set_option maxRecDepth 100000
set_option maxHeartbeats 4000000
namespace Go.Proofs.YtmocelfkmdpogaaGreatDoor.Jo
open Go.RowKit
open Ob (Bs)
theorem Tryz.infoU8:(Tryz.prog.info? 5).map (fun i=>(i.zero,i.size,i.bytes))=some (some (.int .u8 0),1,1):=by kernel_rfl
def u8s (l:List UInt8):List Value:=l.map fun b=>Value.int .u8 b.toNat
theorem kB (a b:List UInt8):u8s (a++b)=u8s a++u8s b:=by simp[u8s]
structure Wst (w:World) (wb:Nat) (v:Value) (l:Bs):Prop where
 c:w.cell? ⟨wb,0,none⟩=some v
 fz:w.frozen? ⟨wb,0,none⟩=false
 own:w.ownsRow (wb+1) 5 1 v l.length (u8s l)
structure Wr (wb:Nat) (w:World) (v:Value) (w':World) (v':Value):Prop where
 os:w'.os=w.os
 tape:w'.tape=w.tape
 output:w'.output=w.output
 size:w.heap.size<=w'.heap.size
 block:∀ k,k<w.heap.size->k≠wb->v.ownBlock≠some k->w'.heap[k]?=w.heap[k]?
 lies:∀ g,v'.ownBlock=some g->v.ownBlock=some g\/w.heap.size<=g
theorem Wr.refl (wb:Nat) (w:World) (v:Value):Wr wb w v w v:=⟨rfl,rfl,rfl,Nat.le_refl _,fun _ _ _ _=>rfl,fun _ h=>Or.inl h⟩
theorem Wr.trans {wb:Nat}{w w1 w2:World}{v v1 v2:Value}(h:Wr wb w v w1 v1) (k:Wr wb w1 v1 w2 v2):Wr wb w v w2 v2 :=
 ⟨k.os.trans h.os,k.tape.trans h.tape,k.output.trans h.output,Nat.le_trans h.size k.size,
 fun i hi hb hv=>(k.block i (Nat.lt_of_lt_of_le hi h.size) hb (fun e=>(h.lies i e).elim hv (Nat.not_le.2 hi))).trans (h.block i hi hb hv),
 fun g hg=>(k.lies g hg).elim (h.lies g) (fun e=>Or.inr (Nat.le_trans h.size e))⟩
theorem Wr.of {wb:Nat}{w w':World}{v:Value}(h:Below w.heap.size w w'):Wr wb w v w' v:=⟨h.os,h.tape,h.output,h.size,fun k hk _ _=>h.block k hk,fun _ h=>Or.inl h⟩
theorem Wr.toBelow {wb:Nat}{w w':World}{v v':Value}(h:Wr wb w v w' v') (hs:wb<=w.heap.size) (hv:∀ g,v.ownBlock=some g->wb<=g):Below wb w w' :=
 ⟨h.os,h.tape,h.output,h.size,fun k hk=>h.block k (by omega) (by omega) (fun e=>by have:=hv k e;omega)⟩
theorem Wst.below {w w':World}{wb:Nat}{v:Value}{l:Bs}(h:Wst w wb v l) (k:Below w.heap.size w w'):Wst w' wb v l:=by
 have hl:=zc h.c
 exact⟨(k.cell (p:=⟨wb,0,none⟩) hl).trans h.c,(k.frozen (p:=⟨wb,0,none⟩) hl).trans h.fz,yj h.own k⟩
theorem Wst.push {w w3:World}{wb:Nat}{v v':Value}{l s:Bs}(h:Wst w wb v l) (ho:w3.ownsRow (wb+1) 5 1 v' (l.length+s.length) (u8s l++u8s s)) (hx:Exact v v' w w3) (hb:Below (wb+1) w w3) :
  Wst (w3.setCell ⟨wb,0,none⟩ v') wb v' (l++s)/\Wr wb w v (w3.setCell ⟨wb,0,none⟩ v') v':=by
 have hc:=(hb.cell (p:=⟨wb,0,none⟩) (by simp)).trans h.c
 refine⟨⟨World.cell?_setCell_same _ _ _ hc,?_,?_⟩,⟨hb.os,hb.tape,hb.output,by simpa using hb.size,fun k hk h1 h2=>(Below.heap_setCell _ _ _ _ (by simpa using h1)).trans (hx.block k hk h2),fun g hg=>hx.lies g hg⟩⟩
 ·have:=(hb.frozen (p:=⟨wb,0,none⟩) (by simp)).trans h.fz
  simpa using this
 ·rw[kB,List.length_append]
  exact zF ho (fun b h1 _ _=>Below.heap_setCell _ _ _ _ (by simp;omega))
theorem vb_len (u:Nat):∀ k,u<128 ^ k->(Ob.vb u).length<=max k 1:=by
 induction u using Nat.strongRecOn with
 | ind u ih =>
  intro k hk
  unfold Ob.vb
  by_cases h:u<128
  ·rw[if_pos h];simp;omega
  ·rw[if_neg h]
   cases k with
   | zero=>simp at hk;omega
   | succ k =>
    have:=ih (u / 128) (by omega) k (by rw[Nat.pow_succ]at hk;omega)
    cases k with
    | zero=>simp at hk;omega
    | succ k=>simp;omega
theorem zY {n:Int}(h:Ob.I64 n):(Ob.num n).length<=10:=by
 have:=vb_len (Ob.zig n) 10 (by have:=Ob.zig_lt h;omega)
 unfold Ob.num;omega
theorem nums_len:∀(ns:List Int),(∀ n∈ns,Ob.I64 n)->((ns.map Ob.num).flatten).length<=10 * ns.length:=by
 intro ns
 induction ns with
 | nil=>intro _;simp
 | cons n l ih =>
  intro h
  have h1:=zY (h n (by simp))
  have h2:=ih (fun x hx=>h x (by simp[hx]))
  simp only [List.map_cons,List.flatten_cons,List.length_append,List.length_cons]
  omega
theorem zig_pos {n:Int}(h:Ob.I64 n) (h0:¬n<0):IntKind.u64.wrap (IntKind.u64.wrap n * 2)=(Ob.zig n:Int):=by
 unfold Ob.I64 at h
 unfold Ob.zig
 rw[if_neg h0,IntKind.wrap_u64,IntKind.wrap_u64]
 omega
theorem zig_neg {n:Int}(h:Ob.I64 n) (h0:n<0):∃ b:Nat,IntKind.u64.wrap (IntKind.u64.wrap n * 2)=(b:Int)/\Go.bits .xor .u64 IntKind.u64.max (b:Int)=(Ob.zig n:Int):=by
 unfold Ob.I64 at h
 refine⟨(2 * n+18446744073709551616).toNat,?_,?_⟩
 ·rw[IntKind.wrap_u64,IntKind.wrap_u64];omega
 ·have e:IntKind.u64.max=18446744073709551615:=rfl
  rw[e,not64 _ (by omega)]
  unfold Ob.zig
  rw[if_pos h0]
  omega
theorem oneInt (k:IntKind) (x:Int):∀ u∈[Value.int k x],u.oneCell'=true:=by intro y hy;simp at hy;subst hy;rfl
def Wrote (wb:Nat) (w:World) (v:Value) (l:Bs) (e:Ending) (w':World):Prop:=e=.returned (.tuple #[])/\∃ v',Wst w' wb v' l/\Wr wb w v w' v'
theorem qs {w:World}{wb nb:Nat}{v:Value}{l:Bs}(h:Wst w wb v l) (ns:List Int) (hns:∀ n∈ns,Ob.I64 n) (hb:w.heap[nb]?=some (.cells (ns.map fun n=>Value.int .i64 n).toArray 2 (0,0))) (h1:nb≠wb) (h2:v.ownBlock≠some nb) (hl:l.length+10 * ns.length<=900000) :
  Calls Tryz.prog 85 #[.pointer (some ⟨wb,0,none⟩),.slice (some ⟨nb,0,none⟩) ns.length ns.length] w (Wrote wb w v (l++(ns.map Ob.num).flatten)):=by
 have hnl:(ns.length:Int)<=900000:=by omega
 have HB:=Lib.hid hb
 have HN:=Lib.hid hns
 have HS:=Lib.hid h
 have hnb:=zi hb
 clear hb hns h
 go_enter Tryz.func85,Tryz.ntmps85
 go_wp2_with fail
 go_loopg [9] ns.length (fun k vi wr=>∃(i:Nat) (v':Value),i<=ns.length/\k=ns.length - i/\vi=.int .i64 (i:Int)/\Hid (Wst wr wb v' (l++((ns.take i).map Ob.num).flatten))/\Hid (Wr wb w v wr v'))
 case atStart=>exact⟨0,v,by omega,by omega,rfl,by simpa using HS,Wr.refl _ _ _⟩
 case round =>
  obtain⟨i,v1,hid,hk,rfl,HST,HW⟩:=hrel
  clear HS
  by_cases hlt:i<ns.length
  ·have hlt':(i:Int)<(ns.length:Int):=by omega
   have hc:wr.cell? ⟨nb,i,none⟩=some (.int .i64 ns[i]):=by
    rw[za ((HW.out.block nb hnb h1 h2).trans HB.out)];simp[hlt]
   have hn:=HN.out ns[i] (List.getElem_mem hlt)
   have hsn:l++((ns.take i).map Ob.num).flatten++Ob.vb (Ob.zig ns[i])=l++((ns.take (i+1)).map Ob.num).flatten:=by
    rw[List.take_succ_eq_append_getElem hlt,List.map_append,List.flatten_append,List.append_assoc];simp[Ob.num]
   generalize ns[i]=n at *
   have hTL:(l++((ns.take (i+1)).map Ob.num).flatten).length<=900000:=by
    have:=nums_len (ns.take (i+1)) (fun x hx=>HN.out x (List.mem_of_mem_take hx))
    simp only [List.length_append]
    have h3:(ns.take (i+1)).length<=ns.length:=List.length_take_le' _ _
    omega
   have HT:Hid (l++((ns.take i).map Ob.num).flatten++Ob.vb (Ob.zig n)=l++((ns.take (i+1)).map Ob.num).flatten):=hsn
   clear hsn
   obtain⟨T,hT⟩:∃ T,l++((ns.take (i+1)).map Ob.num).flatten=T:=⟨_,rfl⟩
   rw[hT]at HT hTL
   have HTT:=Lib.hid hT
   clear hT
   have hzl:=Ob.zig_lt hn
   have hcase:(n<0/\∃ b:Nat,IntKind.u64.wrap (IntKind.u64.wrap n * 2)=(b:Int)/\Go.bits .xor .u64 IntKind.u64.max (b:Int)=(Ob.zig n:Int))\/(¬n<0/\IntKind.u64.wrap (IntKind.u64.wrap n * 2)=(Ob.zig n:Int)):=by
    by_cases h0:n<0
    ·exact Or.inl ⟨h0,zig_neg hn h0⟩
    ·exact Or.inr ⟨h0,zig_pos hn h0⟩
   generalize Ob.zig n=z at *
   clear hn
   rcases hcase with⟨h0,b,ez1,ez2⟩|⟨h0,ez1⟩
   all_goals
    go_wp2_with fail
    go_loopg [6] z (fun k vu wr'=>∃(u:Nat) (v2:Value) (m:Bs),k=u/\vu=.int .u64 (u:Int)/\u<18446744073709551616/\Hid (Wst wr' wb v2 m)/\Hid (Wr wb w v wr' v2)/\Hid (m++Ob.vb u=T))
    case atStart=>exact⟨z,v1,_,rfl,rfl,hzl,HST,HW,HT⟩
    case round =>
     obtain⟨u,v2,m,hk2,rfl,hu,HS2,HW2,HT2⟩:=hrel
     clear HST HW HT hc
     have hml:m.length<900000:=by
      have:=congrArg List.length HT2.out
      have h3:=Ob.vb_pos u
      rw[List.length_append]at this
      omega
     obtain⟨ao,cap,rfl⟩:=zl HS2.out.own
     have kc:=HS2.out.c
     have kf:=HS2.out.fz
     have hwl:=zc kc
     have hown:=HS2.out.own
     by_cases hge:u<128
     ·have hge':(u:Int)<128:=by omega
      have ew:IntKind.u8.wrap (u:Int)=(u:Int):=by rw[IntKind.wrap_u8'];omega
      have HV:Hid (Ob.vb u=[UInt8.ofNat u]):=by unfold Ob.vb;rw[if_pos hge];exact rfl
      have hcn:(u:Int)=(((UInt8.ofNat u).toNat:Nat):Int):=by rw[UInt8.toNat_ofNat'];omega
      have HCN:=Lib.hid hcn
      clear hge hcn
      go_wp2_with (at_builtin;refine yc (size:=1) rfl _ _ 98 rfl Tryz.underlying98 Tryz.infoU8 rfl (by decide) (by decide) rfl hown [.int .u8 (u:Int)] rfl (oneInt _ _) rfl (by omega) (by omega) ?_)
      intro v' w3 hown3 hex3 hb3
      have hc3:=(hb3.cell (p:=⟨wb,0,none⟩) (by simp)).trans kc
      have hf3:=(hb3.frozen (p:=⟨wb,0,none⟩) (by simp)).trans kf
      have hown4:w3.ownsRow (wb+1) 5 1 v' (m.length+[UInt8.ofNat u].length) (u8s m++u8s [UInt8.ofNat u]):=by
       have e:u8s [UInt8.ofNat u]=[.int .u8 (u:Int)]:=by show [Value.int .u8 _]=_;rw[HCN.out]
       rw[e];exact hown3
      obtain⟨p1,p2⟩:=HS2.out.push hown4 hex3 hb3
      have HP1:=Lib.hid p1
      have HP2:=Lib.hid (HW2.out.trans p2)
      have HPT:Hid (m++[UInt8.ofNat u]=T):=by rw[<-HT2.out,HV.out];exact rfl
      obtain⟨a3,c3,rfl⟩:=zl hown3
      clear hown3 hown4 hex3 hb3 p1 p2 hown HS2 HW2 HT2 HV HCN kc kf
      go_wp2_with fail
      go_roundg (ns.length - (i+1))
      case measure=>omega
      case rel=>exact⟨i+1,_,by omega,rfl,by go_num,by rw[HTT.out,<-HPT.out];exact HP1,HP2⟩
     ·have hge':¬(u:Int)<128:=by omega
      obtain⟨q,hq⟩:∃ q,q=u % 256:=⟨_,rfl⟩
      have ew:IntKind.u8.wrap (u:Int)=(q:Int):=by rw[IntKind.wrap_u8'];omega
      have eo:=or128 q (by omega)
      obtain⟨c,hcc⟩:∃ c,c=q % 128+128:=⟨_,rfl⟩
      rw[<-hcc]at eo
      have HV:Hid (Ob.vb u=UInt8.ofNat c :: Ob.vb (u / 128)):=by
       show _=_
       rw[Ob.vb,if_neg hge,hcc,hq,show u % 256 % 128=u % 128 by omega]
      have hcn:(c:Int)=(((UInt8.ofNat c).toNat:Nat):Int):=by rw[UInt8.toNat_ofNat'];omega
      have HCN:=Lib.hid hcn
      have hud:u / 128<u:=by omega
      clear hge hcn hcc hq
      go_wp2_with (at_builtin;refine yc (size:=1) rfl _ _ 98 rfl Tryz.underlying98 Tryz.infoU8 rfl (by decide) (by decide) rfl hown [.int .u8 (c:Int)] rfl (oneInt _ _) rfl (by omega) (by omega) ?_)
      intro v' w3 hown3 hex3 hb3
      have hc3:=(hb3.cell (p:=⟨wb,0,none⟩) (by simp)).trans kc
      have hf3:=(hb3.frozen (p:=⟨wb,0,none⟩) (by simp)).trans kf
      have hown4:w3.ownsRow (wb+1) 5 1 v' (m.length+[UInt8.ofNat c].length) (u8s m++u8s [UInt8.ofNat c]):=by
       have e:u8s [UInt8.ofNat c]=[.int .u8 (c:Int)]:=by show [Value.int .u8 _]=_;rw[HCN.out]
       rw[e];exact hown3
      obtain⟨p1,p2⟩:=HS2.out.push hown4 hex3 hb3
      have HP1:=Lib.hid p1
      have HP2:=Lib.hid (HW2.out.trans p2)
      have HPT:Hid (m++[UInt8.ofNat c]++Ob.vb (u / 128)=T):=by rw[<-HT2.out,HV.out];show _=_;simp
      obtain⟨a3,c3,rfl⟩:=zl hown3
      clear hown3 hown4 hex3 hb3 p1 p2 hown HS2 HW2 HT2 HV HCN kc kf
      go_wp2_with fail
      go_roundg (u / 128)
      case measure=>omega
      case rel=>exact⟨u / 128,_,_,rfl,by go_num,by omega,HP1,HP2,HPT⟩
  ·have hlt':¬(i:Int)<(ns.length:Int):=by omega
   have hei:i=ns.length:=by omega
   have HF:Hid (Wst wr wb v1 (l++(ns.map Ob.num).flatten)):=by rw[hei,List.take_length]at HST;exact HST
   clear HST hei
   go_wp2_with fail
   exact bodyPost_end (results_none rfl _ _ _) rfl ⟨rfl,v1,HF.out,HW.out⟩
theorem Wst.notNew {w:World}{wb:Nat}{v:Value}{l:Bs}(h:Wst w wb v l):v.ownBlock≠some w.heap.size:=fun e=>by have:=owns_lt h.own _ e;omega
theorem Wst.le {w:World}{wb:Nat}{v:Value}{l:Bs}(h:Wst w wb v l):wb+1<=w.heap.size:=zc h.c
theorem kZ {w:World}{wb:Nat}{v:Value}{l:Bs}(h:Wst w wb v l) (ns:List Int) (hns:∀ n∈ns,Ob.I64 n) (hl:l.length+10 * ns.length<=900000) :
  Calls Tryz.prog 85 #[.pointer (some ⟨wb,0,none⟩),.slice (some ⟨w.heap.size,0,none⟩) ns.length ns.length] (w.alloc (.cells (ns.map fun n=>Value.int .i64 n).toArray 2)) (Wrote wb w v (l++(ns.map Ob.num).flatten)):=by
 have hb:Below w.heap.size w (w.alloc (.cells (ns.map fun n=>Value.int .i64 n).toArray 2)):=(Below.refl _ _).alloc (Nat.le_refl _) _
 refine(qs (h.below hb) ns hns (zk _ _) (by have:=h.le;omega) h.notNew hl).mono ?_
 rintro e w' ⟨rfl,v',h1,h2⟩
 exact⟨rfl,v',h1,(Wr.of hb).trans h2⟩
theorem number1 {w:World}{wb:Nat}{v:Value}{l:Bs}(h:Wst w wb v l) (n:Int) (hn:Ob.I64 n) (hl:l.length+10<=900000) :
  Calls Tryz.prog 85 #[.pointer (some ⟨wb,0,none⟩),.slice (some ⟨w.heap.size,0,none⟩) 1 1] (w.alloc (.cells #[.int .i64 n] 2)) (Wrote wb w v (l++Ob.num n)):=by
 have:=kZ h [n] (by simpa using hn) (by simpa using hl)
 simpa using this
theorem number2 {w:World}{wb:Nat}{v:Value}{l:Bs}(h:Wst w wb v l) (n m:Int) (hn:Ob.I64 n) (hm:Ob.I64 m) (hl:l.length+20<=900000) :
  Calls Tryz.prog 85 #[.pointer (some ⟨wb,0,none⟩),.slice (some ⟨w.heap.size,0,none⟩) 2 2] (w.alloc (.cells #[.int .i64 n,.int .i64 m] 2)) (Wrote wb w v (l++(Ob.num n++Ob.num m))):=by
 have:=kZ h [n,m] (by simp[hn,hm]) (by simpa using hl)
 simpa using this
theorem number3 {w:World}{wb:Nat}{v:Value}{l:Bs}(h:Wst w wb v l) (n m k:Int) (hn:Ob.I64 n) (hm:Ob.I64 m) (hk:Ob.I64 k) (hl:l.length+30<=900000) :
  Calls Tryz.prog 85 #[.pointer (some ⟨wb,0,none⟩),.slice (some ⟨w.heap.size,0,none⟩) 3 3] (w.alloc (.cells #[.int .i64 n,.int .i64 m,.int .i64 k] 2)) (Wrote wb w v (l++(Ob.num n++Ob.num m++Ob.num k))):=by
 have:=kZ h [n,m,k] (by simp[hn,hm,hk]) (by simpa using hl)
 simpa using this
theorem xI {w:World}{wb:Nat}{v:Value}{l:Bs}(h:Wst w wb v l) (n:Int) (hn:Ob.I64 n) (hl:l.length+10<=900000) :
  Calls Tryz.prog 84 #[.pointer (some ⟨wb,0,none⟩),.int .i64 n] w (Wrote wb w v (l++Ob.num n)):=by
 have HC:=Lib.hid (number1 h n hn hl)
 clear h
 go_enter Tryz.func84,Tryz.ntmps84
 go_wp2_with fail
 refine HC.out.mono ?_
 rintro e w1 ⟨rfl,v1,h1,h2⟩
 go_wp2_with fail
 exact bodyPost_end (results_none rfl _ _ _) rfl ⟨rfl,v1,h1,h2⟩
theorem kA {ops:Array Oper}{rest:List Oper}{o:Oper}{a:Act}{Q:Exit->Act->World->Prop}(hgd:o.guard=none) (sl x:Operand)
  (ho:o.op=.call { callee:=.builtin .append,args:=#[sl,x],argTypes:=#[98,9] })
  {w:World} {wb:Nat} {v:Value} {l:Bs} (hb:Wst w wb v l) (s:Bs) (hs:a.eval sl=v) (hx:a.eval x=.string (bs s)) (hl:l.length+s.length<=900000)
  (h:∀ v' w',w'.ownsRow (wb+1) 5 1 v' (l.length+s.length) (u8s l++u8s s)->Exact v v' w w'->Below (wb+1) w w'->wpList Tryz.prog ops Q rest (a.put o.dst v') w'):wpList Tryz.prog ops Q (o :: rest) a w:=by
 obtain⟨i0,hi0,hz0,hz1,hz2⟩:=info_parts Tryz.infoU8
 refine zW w hgd sl x 98 9 ho (wb+1) 5 i0 Tryz.underlying98 Tryz.underlying9 hi0 hz0 hz1 hz2 v l.length (u8s l) hs hb.own (bs s) hx (by rw[yn];unfold maxLen;omega) (by rw[yn];omega) hb.le ?_
 intro v' w' h1 h2 h4
 refine h v' w' ?_ h4 ((Below.refl _ _).grown h2 hb.le (zL hb.own))
 rw[yn]at h1
 exact h1
theorem xz {w:World}{wb:Nat}{v:Value}{l:Bs}(h:Wst w wb v l) (s:Bs) (hl:l.length+10+s.length<=900000) :
  Calls Tryz.prog 83 #[.pointer (some ⟨wb,0,none⟩),.string (bs s)] w (Wrote wb w v (l++Ob.txt s)):=by
 have hs:=yn s
 have HNL:=Lib.hid (zY (n:=(s.length:Int)) (by unfold Ob.I64;omega))
 have HC:=Lib.hid (xI h (s.length:Int) (by unfold Ob.I64;omega) (by omega))
 have HTX:Hid (l++Ob.txt s=l++Ob.num (s.length:Int)++s):=by show _=_;simp[Ob.txt]
 rw[HTX.out]
 clear h HTX
 go_enter Tryz.func83,Tryz.ntmps83
 go_wp2_with fail
 refine HC.out.mono ?_
 rintro e w1 ⟨rfl,v1,h1,h2⟩
 obtain⟨ao,cap,rfl⟩:=zl h1.own
 have kc:=h1.c
 have kf:=h1.fz
 have HL:Hid ((l++Ob.num (s.length:Int)).length+s.length<=900000):=by have:=HNL.out;show _<=_;simp only [List.length_append];omega
 generalize l++Ob.num (s.length:Int)=m at *
 go_wp2_with (at_builtin;refine kA rfl _ _ rfl h1 s rfl rfl HL.out ?_)
 intro v' w3 hown3 hex3 hb3
 have hc3:=(hb3.cell (p:=⟨wb,0,none⟩) (by simp)).trans kc
 have hf3:=(hb3.frozen (p:=⟨wb,0,none⟩) (by simp)).trans kf
 obtain⟨p1,p2⟩:=h1.push hown3 hex3 hb3
 have HP1:=Lib.hid p1
 have HP2:=Lib.hid (h2.trans p2)
 obtain⟨a3,c3,rfl⟩:=zl hown3
 clear hown3 hex3 hb3 p1 p2 h1 h2 kc kf HC
 go_wp2_with fail
 exact bodyPost_end (results_none rfl _ _ _) rfl ⟨rfl,_,HP1.out,HP2.out⟩
theorem flag_w {w:World}{wb:Nat}{v:Value}{l:Bs}(h:Wst w wb v l) (b:Bool) (hl:l.length+1<=900000) :
  Calls Tryz.prog 87 #[.pointer (some ⟨wb,0,none⟩),.bool b] w (Wrote wb w v (l++[if b then 1 else 0])):=by
 obtain⟨ao,cap,rfl⟩:=zl h.own
 have kc:=h.c
 have kf:=h.fz
 have hwl:=zc kc
 have hown:=h.own
 cases b
 ·go_enter Tryz.func87,Tryz.ntmps87
  go_wp2_with (at_builtin;refine yc (size:=1) rfl _ _ 98 rfl Tryz.underlying98 Tryz.infoU8 rfl (by decide) (by decide) rfl hown [.int .u8 0] rfl (oneInt _ _) rfl (by omega) (by omega) ?_)
  intro v' w3 hown3 hex3 hb3
  have hc3:=(hb3.cell (p:=⟨wb,0,none⟩) (by simp)).trans kc
  have hf3:=(hb3.frozen (p:=⟨wb,0,none⟩) (by simp)).trans kf
  obtain⟨p1,p2⟩:=h.push (s:=[0]) hown3 hex3 hb3
  have HP1:=Lib.hid p1
  have HP2:=Lib.hid p2
  obtain⟨a3,c3,rfl⟩:=zl hown3
  clear hown3 hex3 hb3 p1 p2 kc kf h hown
  go_wp2_with fail
  exact bodyPost_end (results_none rfl _ _ _) rfl ⟨rfl,_,HP1.out,HP2.out⟩
 ·go_enter Tryz.func87,Tryz.ntmps87
  go_wp2_with (at_builtin;refine yc (size:=1) rfl _ _ 98 rfl Tryz.underlying98 Tryz.infoU8 rfl (by decide) (by decide) rfl hown [.int .u8 1] rfl (oneInt _ _) rfl (by omega) (by omega) ?_)
  intro v' w3 hown3 hex3 hb3
  have hc3:=(hb3.cell (p:=⟨wb,0,none⟩) (by simp)).trans kc
  have hf3:=(hb3.frozen (p:=⟨wb,0,none⟩) (by simp)).trans kf
  obtain⟨p1,p2⟩:=h.push (s:=[1]) hown3 hex3 hb3
  have HP1:=Lib.hid p1
  have HP2:=Lib.hid p2
  obtain⟨a3,c3,rfl⟩:=zl hown3
  clear hown3 hex3 hb3 p1 p2 kc kf h hown
  go_wp2_with fail
  exact bodyPost_end (results_none rfl _ _ _) rfl ⟨rfl,_,HP1.out,HP2.out⟩
def Sl (w:World) (v:Value) (k n:Nat) (cs:List Value):Prop:=∃ a c,v=.slice a n c/\cs.length=n * k/\∀ j u,cs[j]?=some u->∃ b o,a=some ⟨b,o,none⟩/\w.cell? ⟨b,o+j,none⟩=some u
theorem Sl.below {w w':World}{v:Value}{k n:Nat}{cs:List Value}(h:Sl w v k n cs) (hb:Below w.heap.size w w'):Sl w' v k n cs:=by
 obtain⟨a,c,h1,h2,h3⟩:=h
 refine⟨a,c,h1,h2,fun j u hj=>?_⟩
 obtain⟨b,o,e,hc⟩:=h3 j u hj
 exact⟨b,o,e,(hb.cell (p:=⟨b,o+j,none⟩) (zc hc)).trans hc⟩
theorem xh {α:Type}{c:α->List Value}{k:Nat}(hc:∀ x,(c x).length=k):∀(l:List α) (i j:Nat) (hi:i<l.length),j<k->(cellsOf c l)[i * k+j]?=(c l[i])[j]?:=by
 intro l
 induction l with
 | nil=>intro i j hi;simp at hi
 | cons x l ih =>
  intro i j hi hj
  have e:cellsOf c (x :: l)=c x++cellsOf c l:=rfl
  cases i with
  | zero =>
   rw[e,Nat.zero_mul,Nat.zero_add,List.getElem?_append_left (by rw[hc];exact hj)]
   rfl
  | succ i =>
   rw[e,List.getElem?_append_right (by rw[hc,Nat.add_mul];omega),hc,show (i+1) * k+j - k=i * k+j by rw[Nat.add_mul];omega,ih i j (by simpa using hi) hj]
   rfl
theorem Sl.at' {α:Type}{c:α->List Value}{k:Nat}(hc:∀ x,(c x).length=k) (hk:0<k) {w:World}{a:Option Addr}{cap n:Nat}{l:List α}(h:Sl w (.slice a n cap) k l.length (cellsOf c l)) (i:Nat) (hi:i<l.length) :
  ∃ b o,a=some ⟨b,o,none⟩/\b<w.heap.size/\∀ j u,(c l[i])[j]?=some u->w.cell? ⟨b,o+(i * k+j),none⟩=some u:=by
 obtain⟨a',c',h1,h2,h3⟩:=h
 cases h1
 have h0:∃ u,(c l[i])[0]?=some u:=⟨_,List.getElem?_eq_getElem (by rw[hc];exact hk)⟩
 obtain⟨u0,hu0⟩:=h0
 obtain⟨b,o,e,hc0⟩:=h3 (i * k+0) u0 (by rw[xh hc l i 0 hi hk];exact hu0)
 refine⟨b,o,e,zc hc0,fun j u hj=>?_⟩
 have hjk:j<k:=by rw[<-hc l[i]];exact(List.getElem?_eq_some_iff.1 hj).1
 obtain⟨b',o',e',hc'⟩:=h3 (i * k+j) u (by rw[xh hc l i j hi hjk];exact hj)
 rw[e]at e'
 cases e'
 exact hc'
theorem Row.sl {w:World}{D:Nat->Prop}{e k n:Nat}{v:Value}{cs:List Value}(h:Row w D e k v n cs):Sl w v k n cs:=by
 rcases h with⟨rfl,rfl,rfl⟩|⟨g,cap,cur,rfl,_,h3,h4,_,h6,h7⟩
 ·exact⟨_,_,rfl,by simp,fun j u hj=>by simp at hj⟩
 ·have hl:cs.length=n * k:=by rw[<-h7,List.length_take];simp;rw[h6];exact Nat.min_eq_left (Nat.mul_le_mul_right _ h4)
  refine⟨_,_,rfl,hl,fun j u hj=>⟨g,0,rfl,?_⟩⟩
  rw[za h3,Nat.zero_add,<-Array.getElem?_toList,<-hj,<-h7,List.getElem?_take_of_lt]
  have:=(List.getElem?_eq_some_iff.1 hj).1
  omega
def RepN (w:World):List Ob.Us->List Value->Prop
 | [],cs=>cs=[]
 | u :: l,cs=>∃(nv:Value) (cs':List Value),cs=[.string (bs u.name),.string (bs u.need),nv]++cs'/\Sl w nv 1 u.names.length (cellsOf stC u.names)/\RepN w l cs'
theorem RepN.below {w w':World}(hb:Below w.heap.size w w'):∀(l:List Ob.Us) (cs:List Value),RepN w l cs->RepN w' l cs:=by
 intro l
 induction l with
 | nil=>intro cs h;exact h
 | cons c l ih =>
  intro cs h
  obtain⟨nv,cs',h1,h2,h3⟩:=h
  exact⟨nv,cs',h1,h2.below hb,ih cs' h3⟩
theorem RepU.repN {w:World}{D:Nat->Prop}:∀(l:List Ob.Us) (cs:List Value),RepU w D l cs->RepN w l cs:=by
 intro l
 induction l with
 | nil=>intro cs h;exact h
 | cons c l ih =>
  intro cs h
  obtain⟨nv,cs',h1,h2,h3⟩:=h
  exact⟨nv,cs',h1,h2.sl,ih cs' h3⟩
theorem RepN.get {w:World}:∀(l:List Ob.Us) (cs:List Value),RepN w l cs->∀(i:Nat) (hi:i<l.length),∃ na nc,cs[i * 3]?=some (.string (bs l[i].name))/\cs[i * 3+1]?=some (.string (bs l[i].need))/\cs[i * 3+2]?=some (.slice na l[i].names.length nc)/\Sl w (.slice na l[i].names.length nc) 1 l[i].names.length (cellsOf stC l[i].names):=by
 intro l
 induction l with
 | nil=>intro cs h i hi;simp at hi
 | cons c l ih =>
  intro cs h i hi
  obtain⟨nv,cs',rfl,h2,h3⟩:=h
  cases i with
  | zero =>
   obtain⟨na,nc,hv,_⟩:=id h2
   subst hv
   exact⟨na,nc,rfl,rfl,rfl,h2⟩
  | succ i =>
   obtain⟨na,nc,k0,k1,k2,k3⟩:=ih cs' h3 i (by simpa using hi)
   have e:∀ j,([Value.string (bs c.name),Value.string (bs c.need),nv]++cs')[(i+1) * 3+j]?=cs'[i * 3+j]?:=fun j=>by
    rw[List.getElem?_append_right (by simp;omega)]
    congr 1
    simp;omega
   exact⟨na,nc,(e 0).trans k0,(e 1).trans k1,(e 2).trans k2,k3⟩
structure OV (w:World) (b o:Nat) (O:Ob.O) (sa ua va pa na ca:Option Addr) (sc uc vc pc nc cc:Nat):Prop where
 c0:w.cell? ⟨b,o,none⟩=some (.string (bs O.name))
 c1:w.cell? ⟨b,o+1,none⟩=some (.slice sa O.syms.length sc)
 c2:w.cell? ⟨b,o+2,none⟩=some (.slice ua O.uses.length uc)
 c3:w.cell? ⟨b,o+3,none⟩=some (.slice va O.vars.length vc)
 c4:w.cell? ⟨b,o+4,none⟩=some (.slice pa O.procs.length pc)
 c5:w.cell? ⟨b,o+5,none⟩=some (.slice na O.names.length nc)
 c6:w.cell? ⟨b,o+6,none⟩=some (.slice ca O.code.length cc)
 s:Sl w (.slice sa O.syms.length sc) 3 O.syms.length (cellsOf smC O.syms)
 u:∃ ucs,RepN w O.uses ucs/\Sl w (.slice ua O.uses.length uc) 3 O.uses.length ucs
 v:Sl w (.slice va O.vars.length vc) 4 O.vars.length (cellsOf glC O.vars)
 p:Sl w (.slice pa O.procs.length pc) 3 O.procs.length (cellsOf enC O.procs)
 n:Sl w (.slice na O.names.length nc) 1 O.names.length (cellsOf stC O.names)
 c:Sl w (.slice ca O.code.length cc) 3 O.code.length (cellsOf inC O.code)
def OA (w:World) (b o:Nat) (O:Ob.O):Prop:=∃ sa ua va pa na ca sc uc vc pc nc cc,OV w b o O sa ua va pa na ca sc uc vc pc nc cc
theorem OV.below {w w':World}{b o:Nat}{O:Ob.O}{sa ua va pa na ca:Option Addr}{sc uc vc pc nc cc:Nat}(h:OV w b o O sa ua va pa na ca sc uc vc pc nc cc) (k:Below w.heap.size w w'):OV w' b o O sa ua va pa na ca sc uc vc pc nc cc:=by
 have hb:=zc h.c0
 have e:∀ j,w'.cell? ⟨b,j,none⟩=w.cell? ⟨b,j,none⟩:=fun j=>k.cell (p:=⟨b,j,none⟩) hb
 exact⟨(e _).trans h.c0,(e _).trans h.c1,(e _).trans h.c2,(e _).trans h.c3,(e _).trans h.c4,(e _).trans h.c5,(e _).trans h.c6,h.s.below k,let ⟨ucs,h1,h2⟩:=h.u;⟨ucs,RepN.below k _ _ h1,h2.below k⟩,h.v.below k,h.p.below k,h.n.below k,h.c.below k⟩
theorem OA.below {w w':World}{b o:Nat}{O:Ob.O}(h:OA w b o O) (k:Below w.heap.size w w'):OA w' b o O:=by
 obtain⟨sa,ua,va,pa,na,ca,sc,uc,vc,pc,nc,cc,h⟩:=h
 exact⟨sa,ua,va,pa,na,ca,sc,uc,vc,pc,nc,cc,h.below k⟩
theorem VOb.oa {B:Nat}{O:Ob.O}{a:Addr}{w:World}(h:VOb B O (.pointer (some a)) w):∃ ob,a=⟨ob,0,none⟩/\B<=ob/\OA w ob 0 O:=by
 obtain⟨ob,C,sv,uv,vv,pv,nv,cv,h1,h2,h3,h4,h5,h6,h7⟩:=h
 cases h1
 have hs:=h5.s.sl
 obtain⟨ucs,hu1,hu2⟩:=h5.u
 have hu:=hu2.sl
 have hv:=h5.v.sl
 have hn:=h5.n.sl
 have hp:=h6.sl
 have hc:=h7.sl
 obtain⟨sa,sc,rfl,_⟩:=id hs
 obtain⟨ua,uc,rfl,_⟩:=id hu
 obtain⟨va,vc,rfl,_⟩:=id hv
 obtain⟨na,nc,rfl,_⟩:=id hn
 obtain⟨pa,pc,rfl,_⟩:=id hp
 obtain⟨ca,cc,rfl,_⟩:=id hc
 refine⟨ob,rfl,h2,sa,ua,va,pa,na,ca,sc,uc,vc,pc,nc,cc,⟨(za h4).trans rfl,(za h4).trans rfl,(za h4).trans rfl,(za h4).trans rfl,(za h4).trans rfl,(za h4).trans rfl,(za h4).trans rfl,hs,⟨ucs,RepU.repN _ _ hu1,hu⟩,hv,hp,hn,hc⟩⟩
theorem Wst.toBelow {w w':World}{wb B:Nat}{v v':Value}{l:Bs}(h:Wst w wb v l) (k:Wr wb w v w' v') (hB:B<=wb):Below B w w' :=
 (k.toBelow (by have:=h.le;omega) (fun g hg=>by have:=zL h.own g hg;omega)).mono hB
theorem stC_len (s:Bs):(stC s).length=1:=rfl
theorem smC_len (s:Ob.Sm):(smC s).length=3:=rfl
theorem glC_len (s:Ob.Gl):(glC s).length=4:=rfl
theorem enC_len (s:Ob.En):(enC s).length=3:=rfl
theorem vt (s:Ob.In):(inC s).length=3:=rfl
theorem yv {s:Bs}(h:s.length<=1000000):(Ob.txt s).length<=10+s.length:=by
 have:=zY (n:=(s.length:Int)) (by unfold Ob.I64;omega)
 unfold Ob.txt;rw[List.length_append];omega
theorem names_w {w0 w:World}{wb:Nat}{v:Value}{l:Bs}{a:Option Addr}{cap:Nat}(h:Wst w wb v l) (ns:List Bs) (hS:Sl w0 (.slice a ns.length cap) 1 ns.length (cellsOf stC ns)) (hb0:Below w0.heap.size w0 w) (hw0:w0.heap.size<=wb) (hn:ns.length<=100) (hs:∀ s∈ns,s.length<=10) (hl:l.length<=800000) :
  Calls Tryz.prog 86 #[.pointer (some ⟨wb,0,none⟩),.slice a ns.length cap] w (Wrote wb w v (l++Ob.lst Ob.txt ns)):=by
 have HN:=Lib.hid hs
 have HSL:=Lib.hid hS
 have HB0:=Lib.hid hb0
 have HC:=Lib.hid (xI h (ns.length:Int) (by unfold Ob.I64;omega) (by omega))
 have HNL:=Lib.hid (zY (n:=(ns.length:Int)) (by unfold Ob.I64;omega))
 have HTX:Hid (l++Ob.lst Ob.txt ns=l++Ob.num (ns.length:Int)++(ns.map Ob.txt).flatten):=by show _=_;simp[Ob.lst]
 rw[HTX.out]
 have HH:=Lib.hid h
 clear h HTX hs hS hb0
 go_enter Tryz.func86,Tryz.ntmps86
 go_wp2_with fail
 refine HC.out.mono ?_
 rintro e w1 ⟨rfl,v1,h1,h2⟩
 have HL:Hid ((l++Ob.num (ns.length:Int)).length<=800010):=by have:=HNL.out;show _<=_;simp only [List.length_append];omega
 generalize l++Ob.num (ns.length:Int)=m at *
 have HS1:=Lib.hid h1
 have HW1:=Lib.hid h2
 clear h1 h2 HC
 go_wp2_with fail
 go_loopg [12] ns.length (fun k vi wr=>∃(i:Nat) (v':Value),i<=ns.length/\k=ns.length - i/\vi=.int .i64 (i:Int)/\Hid (Wst wr wb v' (m++((ns.take i).map Ob.txt).flatten))/\Hid (Wr wb w v wr v')/\Hid ((m++((ns.take i).map Ob.txt).flatten).length<=800010+20 * i))
 case atStart=>exact⟨0,v1,by omega,by omega,rfl,by simpa using HS1,HW1,by simpa using HL⟩
 case round =>
  obtain⟨i,v2,hid,hk,rfl,HST,HW,HLL⟩:=hrel
  clear HS1 HW1 HL
  by_cases hlt:i<ns.length
  ·have hlt':(i:Int)<(ns.length:Int):=by omega
   obtain⟨b,o,rfl,hbl,hcell⟩:=HSL.out.at' stC_len (by omega) i hlt
   have hc0:=hcell 0 _ rfl
   rw[Nat.mul_one,Nat.add_zero]at hc0
   have hbw:Below w0.heap.size w0 wr:=HB0.out.trans ((HH.out.toBelow HW.out hw0))
   have hc:wr.cell? ⟨b,o+i,none⟩=some (.string (bs ns[i])):=(hbw.cell (p:=⟨b,o+i,none⟩) hbl).trans hc0
   have hx:=HN.out ns[i] (List.getElem_mem hlt)
   have hsn:m++((ns.take i).map Ob.txt).flatten++Ob.txt ns[i]=m++((ns.take (i+1)).map Ob.txt).flatten:=by
    rw[List.take_succ_eq_append_getElem hlt,List.map_append,List.flatten_append,List.append_assoc];simp
   have HSN:=Lib.hid hsn
   have hbl':b<wr.heap.size:=zc hc
   generalize ns[i]=x at *
   have HC:=Lib.hid (xz HST.out x (by have:=HLL.out;omega))
   clear hcell hc0 hbw hsn
   go_wp2_with fail
   refine HC.out.mono ?_
   rintro e w2 ⟨rfl,v3,h3,h4⟩
   have HST3:Hid (Wst w2 wb v3 (m++((ns.take (i+1)).map Ob.txt).flatten)):=by rw[<-HSN.out];exact h3
   have HW3:=Lib.hid (HW.out.trans h4)
   have HL3:Hid ((m++((ns.take (i+1)).map Ob.txt).flatten).length<=800010+20 * (i+1)):=by
    rw[<-HSN.out]
    have:=HLL.out
    have h5:=yv (s:=x) (by omega)
    show _<=_
    rw[List.length_append]
    omega
   clear h3 h4 HC HST HW HLL HSN hc hbl'
   go_wp2_with fail
   go_roundg (ns.length - (i+1))
   case measure=>omega
   case rel=>exact⟨i+1,v3,by omega,rfl,by go_num,HST3,HW3,HL3⟩
  ·have hlt':¬(i:Int)<(ns.length:Int):=by omega
   have hei:i=ns.length:=by omega
   have HF:Hid (Wst wr wb v2 (m++(ns.map Ob.txt).flatten)):=by rw[hei,List.take_length]at HST;exact HST
   clear HST hei
   go_wp2_with fail
   exact bodyPost_end (results_none rfl _ _ _) rfl ⟨rfl,v2,HF.out,HW.out⟩
end Go.Proofs.YtmocelfkmdpogaaGreatDoor.Jo
