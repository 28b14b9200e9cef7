import Derived.Test.YtmnedfdffbbchaaGreatDoorKIa
set_option maxRecDepth 100000
set_option maxHeartbeats 4000000

namespace Go.Proofs.YtmnedfdffbbchaaGreatDoor.Jo
open Go.RowKit Go.Maps
open Ob (O In I64)
open Vm (St Fr Pl)
theorem own_set {w:World}{base e size n g cap j:Nat}{v:Value}{xs:List Value}(h:w.ownsRow base e size v n xs) (hv:v=.slice (some ⟨g,0,none⟩) n cap) (u:Value):(w.setCell ⟨g,j,none⟩ u).ownsRow base e size v n (xs.set j u):=by
 refine⟨by rw[List.length_set];exact h.1,?_⟩
 rcases h.2 with⟨q,_⟩|⟨g',cap',cur,q,q1,q2,q3,q4,q5,q6⟩
 ·rw[hv]at q;cases q
 ·rw[hv]at q
  simp only [Value.slice.injEq,Option.some.injEq,Addr.mk.injEq]at q
  obtain⟨⟨rfl,_,_⟩,_,rfl⟩:=q
  refine Or.inr ⟨g,cap,_,hv,q1,zC j u q2,q3,q4,by simpa using q5,?_⟩
  rw[Array.toList_setIfInBounds,List.take_set,q6]
theorem MM.frset {c:Vx}{W:World}{s:St}{vv:List (List Int)}{fv sv ov:Value}{way:Nat}(h:MM c W s vv fv sv ov) (hg:G8 c W fv sv ov way) {f f':Fr}{fs:List Fr}(hf:s.frames=f :: fs) {fb cap:Nat}(hv:fv=.slice (some ⟨fb,0,none⟩) (fs.length+1) cap) (j:Nat) (u:Value) (hf':FrOk c f') (hc:frC c f'=(frC c f).set j u) :
  MM c (W.setCell ⟨fb,fs.length * 14+j,none⟩ u) (Vm.going f' fs s) vv fv sv ov/\G8 c (W.setCell ⟨fb,fs.length * 14+j,none⟩ u) fv sv ov way:=by
 have hfr:=h.fr
 have hff:=h.ff
 rw[hf]at hfr hff
 have hown:fv.ownBlock=some fb:=by rw[hv];rfl
 have k6:∀ b,b≠fb->(W.setCell ⟨fb,fs.length * 14+j,none⟩ u).heap[b]?=W.heap[b]?:=fun b hb=>Below.heap_setCell _ _ _ _ (by simpa using hb)
 have ne:∀ {b e:Nat} {cs:Array Value},W.heap[b]?=some (.cells cs e (0,0))->87≠e->b≠fb:=fun {b e cs} h1 h2 q=>zJ hfr h1 h2 (q ▸ hown)
 have hl:(frs c fs).length=fs.length * 14:=vZ c fs fun x hx=>(hff x (List.mem_cons_of_mem _ hx)).ll
 have hbase:c.w0.heap.size<=fb:=(hfr.lt fb hown).1
 refine⟨⟨h.be.setCell hbase _,(k6 _ (ne h.pk (by decide))).trans h.pk,yq h.vk fun b cur _ hc=>k6 b (ne hc (by decide)),h.th,h.vn,fun i hi=>?_,?_,?_,?_,h.dj,h.sl,h.si,h.ol,h.oi,?_,?_,fun x hx=>?_,fun b o hb=>⟨(k6 b fun q=>far_own hfr (h.ek b o hb) (by unfold Wet;decide) (by rw[q];exact hown)).trans (h.ek b o hb).1,(h.ek b o hb).2⟩⟩,(k6 _ (ne hg (by decide))).trans hg⟩
 ·obtain⟨a1,a2,a3⟩:=h.vm i hi
  exact⟨a1,(k6 _ (ne a2 (by decide))).trans a2,a3⟩
 ·have e:frs c (f' :: fs)=(frs c (f :: fs)).set (fs.length * 14+j) u:=by
   rw[kF,kF,List.set_append_right _ _ (by omega),hl,Nat.add_sub_cancel_left,hc]
  show World.ownsRow _ _ _ _ _ (f' :: fs).length (frs c (f' :: fs))
  rw[e]
  exact own_set hfr hv u
 ·exact z7 h.st fun b _ _ q=>k6 b fun e=>yF h.st hfr (by decide) (e ▸ q) hown
 ·exact z7 h.ou fun b _ _ q=>k6 b fun e=>yF h.ou hfr (by decide) (e ▸ q) hown
 ·have:=h.fl
  rw[hf]at this
  exact this
 ·have:=h.fm
  rw[hf]at this
  exact this
 ·rcases List.mem_cons.1 hx with rfl|hx
  ·exact hf'
  ·exact hff x (List.mem_cons_of_mem _ hx)
theorem vx (c:Vx) (f:Fr) (k:Nat) (n:Int):frC c { f with locals:=f.locals.set k n }=(frC c f).set (k+4) (.int .i64 n):=by
 simp[frC,ints_set]
theorem ub (c:Vx) (f:Fr) (k:Nat) (hk:k<f.locals.length):(frC c f)[k+4]?=some (.int .i64 f.locals[k]):=by
 simp[frC,ints,hk]
theorem frOk_local {c:Vx}{f:Fr}(h:FrOk c f) (k:Nat) {n:Int}(hn:I64 n):FrOk c { f with locals:=f.locals.set k n } :=
 ⟨h.of,by rw[List.length_set];exact h.ll,fun v hv=>(List.mem_or_eq_of_mem_set hv).elim (h.li v) (fun e=>e ▸ hn),h.mn,h.at',h.bs⟩
def localF (op:Nat) (k:Nat) (f:Fr) (fs:List Fr) (s:St):St:=if f.many<=k then Vm.ended 8 s else if op=3 then Vm.put (f.locals.getD k 0) s else Vm.taken f.base s fun n s=>Vm.going { f with locals:=f.locals.set k n } fs s
theorem local8 {c:Vx}{W:World}{s:St}{vv:List (List Int)}{fv sv ov:Value}(h:MM c W s vv fv sv ov) (ok:VxOk c) (hg:G8 c W fv sv ov s.way) {f:Fr}{fs:List Fr}(hf:s.frames=f :: fs) (op k:Nat) (hop:op=3\/op=4) (hk:k<10) (b:Int) :
  Calls Tryz.prog 107 #[.pointer (some ⟨c.gb,0,none⟩),.agg #[.int .i64 (op:Int),.int .i64 (k:Int),.int .i64 b]] W (StepP c (localF op k f fs s)):=by
 obtain⟨fb,cap,hfv,hfb,hcap,hfc⟩:=h.top hf
 have hfo:=h.ff f (by rw[hf];simp)
 have hgl:=zk hg
 obtain⟨w0,hw0⟩:∃ w0,w0=W.alloc (.cells #[.int .i64 (op:Int),.int .i64 (k:Int),.int .i64 b] 68):=⟨_,rfl⟩
 have hb0:Below W.heap.size W w0:=by rw[hw0];exact zb _ _
 have hk0:w0.heap[W.heap.size]?=some (.cells #[.int .i64 (op:Int),.int .i64 (k:Int),.int .i64 b] 68 (0,0)):=by rw[hw0];exact zw _ _
 have hl0:W.heap.size<w0.heap.size:=zk hk0
 have h0:=h.below ok hg hb0
 have g0:G8 c w0 fv sv ov s.way:=(hb0.block _ hgl).trans hg
 have HLA:=zh (last8 h0 g0 hf hfv)
 have HX:Hid (∀ w1,Below w0.heap.size w0 w1->w1.cell? ⟨W.heap.size,0,none⟩=some (.int .i64 (op:Int))/\w1.cell? ⟨W.heap.size,1,none⟩=some (.int .i64 (k:Int))/\w1.cell? ⟨fb,fs.length * 14+3,none⟩=some (.int .i64 (f.many:Int))/\w1.cell? ⟨fb,fs.length * 14+4+k,none⟩=some (.int .i64 (f.locals.getD k 0))/\W.heap.size<w1.heap.size/\fb<w1.heap.size):=fun w1 hb=>by
  have e:=(hb.block _ hl0).trans hk0
  have hW:=hb0.trans (hb.mono hb0.size)
  have hkl:k<f.locals.length:=by rw[hfo.ll];exact hk
  have hq:f.locals.getD k 0=f.locals[k]:=by rw[List.getD_eq_getElem?_getD,List.getElem?_eq_getElem hkl];rfl
  exact⟨(zc e).trans rfl,(zc e).trans rfl,(hW.cell (p:=⟨fb,fs.length * 14+3,none⟩) hfb).trans (hfc 3 _ rfl),by rw[hq,Nat.add_assoc,Nat.add_comm 4 k];exact(hW.cell (p:=⟨fb,fs.length * 14+(k+4),none⟩) hfb).trans (hfc (k+4) _ (ub c f k hkl)),Nat.lt_of_lt_of_le hl0 hb.size,Nat.lt_of_lt_of_le hfb hW.size⟩
 have HM:Hid (∀ w1,Below w0.heap.size w0 w1->MM c w1 s vv fv sv ov/\G8 c w1 fv sv ov s.way):=fun w1 hb=>⟨h0.below ok g0 hb,(hb.block _ (zk g0)).trans g0⟩
 have HGL:=zh hgl
 have HOK:=zh ok
 have HF:=zh hf
 have HFO:=zh hfo
 have HFV:=zh hfv
 have hkI:(k:Int)<10:=by omega
 have hmn:(f.many:Int)<=10:=by have:=hfo.mn;omega
 clear h ok hg hf hfc hfo hb0 hk0 h0 g0 hfv
 obtain⟨many,hmany⟩:∃ m,m=f.many:=⟨_,rfl⟩
 obtain⟨q,hq⟩:∃ q,q=fs.length:=⟨_,rfl⟩
 rw[<-hmany]at HX hmn
 rw[<-hq]at HLA HX
 have HQ:=zh (And.intro hmany hq)
 clear hmany hq
 go_enter Tryz.func107,Tryz.ntmps107
 go_upto_region 1 with fail
 rw[<-hw0]
 clear hw0
 go_wp2_with fail
 refine HLA.out.mono ?_
 rintro e w1 ⟨rfl,hb1⟩
 obtain⟨x0,x1,x3,x4,hxl,hfl⟩:=HX.out w1 hb1
 obtain⟨hm1,hg1⟩:=HM.out w1 hb1
 by_cases hkm:many<=k
 ·have hkm':(many:Int)<=(k:Int):=by omega
  have HEND:Hid (∀ w2,Below w1.heap.size w1 w2->StepP c (localF op k f fs s) (.returned (.tuple #[])) (w2.setCell ⟨c.gb,5,none⟩ (.int .i64 8))/\w2.cell? ⟨c.gb,5,none⟩=some (.int .i64 (s.way:Int))/\w2.frozen? ⟨c.gb,5,none⟩=false/\c.gb<w2.heap.size):=fun w2 hb=>by
   have hm2:=hm1.below HOK.out hg1 hb
   have hg2:G8 c w2 fv sv ov s.way:=(hb.block _ (zk hg1)).trans hg1
   refine⟨⟨rfl,?_⟩,(zc hg2).trans rfl,zr hg2,zk hg2⟩
   unfold localF
   rw[if_pos (by have:=HQ.out.1;omega)]
   exact MV.end hm2 HOK.out hg2 8
  clear hm1 hg1 HM x4 HLA
  generalize (s.way:Int)=wy at *
  go_wp2_with fail
  go_quiet (fail)
  obtain⟨hfin,k5,z5,hgl2⟩:=HEND.out (w1.drewN nq) (below_drewN w1 nq)
  have HFIN:=zh hfin
  clear hfin
  go_wp2_with fail
  first|exact ze rfl rfl HFIN.out|exact bodyPost_ret (v:=.tuple #[]) (by simp[results,Tryz.results107,go_sem]) rfl HFIN.out
 ·have hkm':¬(many:Int)<=(k:Int):=by omega
  have HTO:Hid (∀ w2,Below w1.heap.size w1 w2->MM c w2 s vv fv sv ov/\G8 c w2 fv sv ov s.way/\Below w0.heap.size w0 w2):=fun w2 hb=>⟨hm1.below HOK.out hg1 hb,(hb.block _ (zk hg1)).trans hg1,hb1.trans (hb.mono hb1.size)⟩
  clear hm1 hg1 HM x4 HLA
  go_wp2_with fail
  go_quiet (fail)
  obtain⟨hm2,hg2,hb2⟩:=HTO.out (w1.drewN nq) (below_drewN w1 nq)
  obtain⟨w2,hw2⟩:∃ w2,w2=w1.drewN nq:=⟨_,rfl⟩
  rw[<-hw2]at hm2 hg2 hb2 ⊢
  clear hw2
  obtain⟨x0,x1,x3,x4,hxl,hfl⟩:=HX.out w2 hb2
  rcases hop with rfl|rfl
  ·have hi:I64 (f.locals.getD k 0):=by
    have hkl:k<f.locals.length:=by rw[HFO.out.ll];exact hk
    rw[List.getD_eq_getElem?_getD,List.getElem?_eq_getElem hkl]
    exact HFO.out.li _ (List.getElem_mem hkl)
   have HP:Hid (∀ w3,Below w2.heap.size w2 w3->Calls Tryz.prog 105 #[.pointer (some ⟨c.gb,0,none⟩),.int .i64 (f.locals.getD k 0)] w3 fun e W'=>e=.returned (.tuple #[])/\StepP c (localF 3 k f fs s) (.returned (.tuple #[])) W'):=fun w3 hb=>(put8 (hm2.below HOK.out hg2 hb) HOK.out ((hb.block _ (zk hg2)).trans hg2) _ hi).mono fun e w' ⟨h1,h2⟩=>⟨h1,rfl,by
    unfold localF
    rw[if_neg (by have:=HQ.out.1;omega),if_pos rfl]
    exact h2⟩
   have HPD:=zh (HP.out _ (zt w2))
   have HP0:=zh (HP.out _ (Below.refl _ _))
   generalize f.locals.getD k 0=lv at *
   clear hm2 hg2 hi HP
   go_wp2_with fail
   go_region_law (first|(refine zI rfl ?_;go_simp;go_at_call 105;refine HPD.out.mono ?_;rintro e w3 ⟨rfl,hw⟩;have HFIN:=zh hw;clear hw)|(refine zI rfl ?_;go_simp;go_at_call 105;refine HP0.out.mono ?_;rintro e w3 ⟨rfl,hw⟩;have HFIN:=zh hw;clear hw))
   all_goals
    go_wp2_with fail
    first|exact ze rfl rfl HFIN.out|exact bodyPost_ret (v:=.tuple #[]) (by simp[results,Tryz.results107,go_sem]) rfl HFIN.out
  ·have HT:=zh (take8 hm2 HOK.out hg2 HF.out)
   have hgb:W.heap.size≠c.gb:=by have:=HX.out w0 (Below.refl _ _);have h1:=HGL.out;omega
   have HX2:Hid (∀ w3,Kg c w2 w3->w3.cell? ⟨W.heap.size,1,none⟩=some (.int .i64 (k:Int))/\W.heap.size<w3.heap.size):=fun w3 hk=>⟨(World.cell?_of_block (w:=w2) (hk.block _ hxl hgb)).trans x1,Nat.lt_of_lt_of_le hxl hk.be.size⟩
   have HSI:=zh hm2.si
   clear hm2 hg2 x4
   go_wp2_with fail
   refine HT.out.mono ?_
   intro e w3 hqq
   obtain⟨hkk,hqq⟩:=hqq
   obtain⟨x13,hxl3⟩:=HX2.out w3 hkk
   by_cases h1:s.stack.length<=f.base
   ·rw[if_pos h1]at hqq
    obtain⟨rfl,hm3,hg3⟩:=hqq
    have HFIN:Hid (StepP c (localF 4 k f fs s) (.returned (.tuple #[])) w3):=⟨rfl,by
     unfold localF
     rw[if_neg (by have:=HQ.out.1;omega),if_neg (by decide),yf h1]
     exact hm3.mv8 hg3⟩
    clear hkk hm3 hg3 h1 HT
    go_wp2_with fail
    first|exact ze rfl rfl HFIN.out|exact bodyPost_ret (v:=.tuple #[]) (by simp[results,Tryz.results107,go_sem]) rfl HFIN.out
   ·rw[if_neg h1]at hqq
    obtain⟨n,r,sv',hs,rfl,hm3,hg3⟩:=hqq
    have hn:I64 n:=HSI.out n (by rw[hs];simp)
    have HST:Hid (∀ w4,Below w3.heap.size w3 w4->StepP c (localF 4 k f fs s) (.returned (.tuple #[])) (w4.setCell ⟨fb,q * 14+4+k,none⟩ (.int .i64 n))/\w4.frozen? ⟨fb,q * 14+4+k,none⟩=false/\∃ v,w4.cell? ⟨fb,q * 14+4+k,none⟩=some v):=fun w4 hb=>by
     have hm4:=hm3.below HOK.out hg3 hb
     have hg4:G8 c w4 fv sv' ov s.way:=(hb.block _ (zk hg3)).trans hg3
     obtain⟨f1,f2⟩:=hm4.frset hg4 (f':={ f with locals:=f.locals.set k n }) HF.out HFV.out (k+4) (.int .i64 n) (frOk_local HFO.out k hn) (vx c f k n)
     obtain⟨fb',cap',hfv',_,_,hfc'⟩:=hm4.top HF.out
     have hkl:k<f.locals.length:=by rw[HFO.out.ll];exact hk
     have hfbq:fb'=fb:=by
      have:=HFV.out.symm.trans hfv'
      simp only [Value.slice.injEq,Option.some.injEq,Addr.mk.injEq]at this
      exact this.1.1.symm
     subst hfbq
     rw[HQ.out.2,Nat.add_assoc,Nat.add_comm 4 k]
     refine⟨⟨rfl,?_⟩,?_,_,hfc' (k+4) _ (ub c f k hkl)⟩
     ·unfold localF
      rw[if_neg (by have:=HQ.out.1;omega),if_neg (by decide),zM hs h1]
      exact⟨_,_,_,_,f1,f2⟩
     ·rcases hm4.fr.2 with⟨e,_⟩|⟨g',cp',cur',e,_,hh,_⟩
      ·rw[e]at hfv';cases hfv'
      ·rw[e]at hfv'
       simp only [Value.slice.injEq,Option.some.injEq,Addr.mk.injEq]at hfv'
       rw[<-hfv'.1.1]
       exact zr hh
    obtain⟨hfin,zz,v0,kk⟩:=HST.out w3.drew (zt w3)
    have HFIN:=zh hfin
    have hfl3:fb<w3.heap.size:=zi kk
    clear hkk hm3 hg3 h1 HT hfin HST hs
    have kk':w3.cell? ⟨fb,q * 14+4+k,none⟩=some v0:=kk
    have zz':w3.frozen? ⟨fb,q * 14+4+k,none⟩=false:=zz
    go_wp2_with fail
    go_region_law (fail)
    all_goals
     go_wp2_with fail
     first|exact ze rfl rfl HFIN.out|exact bodyPost_ret (v:=.tuple #[]) (by simp[results,Tryz.results107,go_sem]) rfl HFIN.out
def zeros (n:Nat):List Int:=List.replicate n 0
def frV (c:Vx) (f:Fr):Value:=.agg (frC c f).toArray
theorem entry8 {c:Vx}{W:World}(ok:VxOk c) (be:Below c.w0.heap.size c.w0 W) {i:Nat}(hi:i<c.O.procs.length):∃ b o pc,W.cell? ⟨c.ob,c.oo+4,none⟩=some (.slice (some ⟨b,o,none⟩) c.O.procs.length pc)/\b<W.heap.size/\c.ob<W.heap.size/\W.cell? ⟨b,o+i * 3,none⟩=some (.int .i64 c.O.procs[i].at')/\W.cell? ⟨b,o+i * 3+1,none⟩=some (.int .i64 c.O.procs[i].args)/\W.cell? ⟨b,o+i * 3+2,none⟩=some (.int .i64 c.O.procs[i].locals):=by
 obtain⟨sa,ua,va,pa,na,ca,sc,uc,vc,pc,nc,cc,h⟩:=ok.oa.below be
 obtain⟨b,o,rfl,hb,hc⟩:=Sl.at' jK (by omega) h.p i hi
 exact⟨b,o,pc,by simpa using h.c4,hb,zi h.c4,hc 0 _ rfl,by simpa[Nat.add_assoc] using hc 1 _ rfl,by simpa[Nat.add_assoc] using hc 2 _ rfl⟩
theorem entered8 {c:Vx}{W:World}{s:St}{vv:List (List Int)}{fv sv ov:Value}(h:MM c W s vv fv sv ov) (ok:VxOk c) {i:Nat}(hi:i<c.O.procs.length) (at' many:Nat) (ha:c.O.procs[i].at'=(at':Int)) (hm:c.O.procs[i].locals=(many:Int)) :
  Calls Tryz.prog 40 #[.pointer (some ⟨c.pb,0,none⟩),.int .i64 (i:Int)] W fun e W'=>e=.returned (frV c ⟨c.O.name,at',0,many,zeros 10⟩)/\Below W.heap.size W W':=by
 obtain⟨b,o,pc,k4,hb,hob,e0,e1,e2⟩:=entry8 ok h.be hi
 rw[ha]at e0
 rw[hm]at e2
 have kp:W.cell? ⟨c.pb,0,none⟩=some (.pointer (some ⟨c.ob,c.oo,none⟩)):=(zc h.pk).trans rfl
 have hpl:=zk h.pk
 have hii:(i:Int)<(c.O.procs.length:Int):=by omega
 clear h ok ha hm
 generalize c.O.procs[i].args=ar at *
 generalize c.O.procs.length=pn at *
 go_enter Tryz.func40,Tryz.ntmps40
 have hv:frV c ⟨c.O.name,at',0,many,zeros 10⟩=.agg #[.pointer (some ⟨c.pb,0,none⟩),.int .i64 (at':Int),.int .i64 0,.int .i64 (many:Int),.int .i64 0,.int .i64 0,.int .i64 0,.int .i64 0,.int .i64 0,.int .i64 0,.int .i64 0,.int .i64 0,.int .i64 0,.int .i64 0]:=rfl
 rw[hv]
 obtain⟨w2,hw2⟩:∃ w2,w2=(W.alloc (.cells #[.pointer (some ⟨c.pb,0,none⟩),.int .i64 (at':Int),.int .i64 0,.int .i64 (many:Int),.int .i64 0,.int .i64 0,.int .i64 0,.int .i64 0,.int .i64 0,.int .i64 0,.int .i64 0,.int .i64 0,.int .i64 0,.int .i64 0] 87)).alloc (.cells #[.int .i64 (at':Int),.int .i64 ar,.int .i64 (many:Int)] 98):=⟨_,rfl⟩
 have HB:Hid (Below W.heap.size W w2):=by rw[hw2];exact(zb _ _).alloc (by simp) _
 have hk:w2.heap[W.heap.size]?=some (.cells #[.pointer (some ⟨c.pb,0,none⟩),.int .i64 (at':Int),.int .i64 0,.int .i64 (many:Int),.int .i64 0,.int .i64 0,.int .i64 0,.int .i64 0,.int .i64 0,.int .i64 0,.int .i64 0,.int .i64 0,.int .i64 0,.int .i64 0] 87 (0,0)):=by rw[hw2];exact(Below.heap_alloc _ _ _ (by simp)).trans (zw _ _)
 have hc:∀ j,w2.cell? ⟨W.heap.size,j,none⟩=(#[.pointer (some ⟨c.pb,0,none⟩),.int .i64 (at':Int),.int .i64 0,.int .i64 (many:Int),.int .i64 0,.int .i64 0,.int .i64 0,.int .i64 0,.int .i64 0,.int .i64 0,.int .i64 0,.int .i64 0,.int .i64 0,.int .i64 0]:Array Value)[j]?:=fun j=>zc hk
 clear hk hv
 go_wp2_with fail
 rw[<-hw2]
 exact bodyPost_ret (v:=.agg #[.pointer (some ⟨c.pb,0,none⟩),.int .i64 (at':Int),.int .i64 0,.int .i64 (many:Int),.int .i64 0,.int .i64 0,.int .i64 0,.int .i64 0,.int .i64 0,.int .i64 0,.int .i64 0,.int .i64 0,.int .i64 0,.int .i64 0]) (by simp[results,Tryz.results40,go_sem,hc]) rfl ⟨rfl,HB.out⟩
theorem ent8 {c:Vx}(ok:VxOk c) {i:Nat}(hi:i<c.O.procs.length):∃ a r m:Nat,c.O.procs[i].at'=(a:Int)/\c.O.procs[i].args=(r:Int)/\c.O.procs[i].locals=(m:Int)/\a<c.O.code.length/\r<=m/\m<=10:=by
 have h:=ok.rt
 unfold Ob.rightB Ob.procsB at h
 simp only [Bool.and_eq_true]at h
 obtain⟨_,⟨p1,_⟩,_⟩:=h
 have:=(Ob.allB_le p1).2 _ (List.getElem_mem hi)
 unfold Ob.entB at this
 simp only [Bool.and_eq_true,decide_eq_true_eq,Ob.countsB]at this
 obtain⟨⟨a1,a2⟩,a3,a4,a5⟩:=this
 exact⟨c.O.procs[i].at'.toNat,c.O.procs[i].args.toNat,c.O.procs[i].locals.toNat,by omega,by omega,by omega,by omega,by omega,by omega⟩
theorem zP {c:Vx}(ok:VxOk c):c.O.code.length<=4000:=by
 have h:=ok.rt
 unfold Ob.rightB Ob.codeB at h
 simp only [Bool.and_eq_true]at h
 exact(Ob.allB_le h.2.2.1).1
theorem MM.fbox {c:Vx}{W:World}{s:St}{vv:List (List Int)}{fv sv ov:Value}{way x:Nat}{cs:Array Value}(h:MM c W s vv fv sv ov) (hg:G8 c W fv sv ov way) (hx:W.heap[x]?=some (.cells cs 87 (0,0))) (hne:fv.ownBlock≠some x) (hb:c.w0.heap.size<=x) (j:Nat) (u:Value):MM c (W.setCell ⟨x,j,none⟩ u) s vv fv sv ov/\G8 c (W.setCell ⟨x,j,none⟩ u) fv sv ov way:=by
 have k6:∀ b,b≠x->(W.setCell ⟨x,j,none⟩ u).heap[b]?=W.heap[b]?:=fun b hb=>Below.heap_setCell _ _ _ _ (by simpa using hb)
 have ne:∀ {b e:Nat} {cs':Array Value},W.heap[b]?=some (.cells cs' e (0,0))->e≠87->b≠x:=fun {b e cs'} h1 h2 q=>by
  rw[q,hx]at h1
  injection h1 with h1
  injection h1 with _ h1
  exact h2 h1.symm
 refine⟨⟨h.be.setCell hb _,(k6 _ (ne h.pk (by decide))).trans h.pk,yq h.vk fun b cur _ hc=>k6 b (ne hc (by decide)),h.th,h.vn,fun i hi=>?_,?_,?_,?_,h.dj,h.sl,h.si,h.ol,h.oi,h.fl,h.fm,h.ff,fun b o hb=>⟨(k6 _ (xm (h.ek b o hb) hx (by unfold Wet;decide))).trans (h.ek b o hb).1,(h.ek b o hb).2⟩⟩,(k6 _ (ne hg (by decide))).trans hg⟩
 ·obtain⟨a1,a2,a3⟩:=h.vm i hi
  exact⟨a1,(k6 _ (ne a2 (by decide))).trans a2,a3⟩
 ·exact z7 h.fr fun b _ _ q=>k6 b fun e=>hne (e ▸ q)
 ·exact z7 h.st fun b _ _ q=>k6 b fun e=>zJ h.st hx (by decide) (e ▸ q)
 ·exact z7 h.ou fun b _ _ q=>k6 b fun e=>zJ h.ou hx (by decide) (e ▸ q)
theorem MM.pushf {c:Vx}{W w1 w5:World}{s:St}{vv:List (List Int)}{fv sv ov v':Value}{way:Nat}{f:Fr}(h:MM c W s vv fv sv ov) (ok:VxOk c) (hg:G8 c W fv sv ov way) (hb:Below W.heap.size W w1) (hn:s.frames.length<c.most) (hf:FrOk c f)
  (q1:w5.ownsRow c.w0.heap.size 87 14 v' (s.frames.length+1) (frs c s.frames++frC c f)) (q2:w1.grownBy w5 fv.ownBlock) :
  MM c (w5.setCell ⟨c.gb,1,none⟩ v') { s with frames:=f :: s.frames } vv v' sv ov/\G8 c (w5.setCell ⟨c.gb,1,none⟩ v') v' sv ov way:=by
 have hgl:=zk hg
 have hsz:=hb.size
 have k5:∀ b,b<W.heap.size->fv.ownBlock≠some b->w5.heap[b]?=W.heap[b]?:=fun b hbl hne=>(q2.block b (Nat.lt_of_lt_of_le hbl hsz) (fun e=>hne e.symm)).trans (hb.block b hbl)
 have ne:∀ {b e:Nat} {cs:Array Value},W.heap[b]?=some (.cells cs e (0,0))->87≠e->fv.ownBlock≠some b:=fun {b e cs} h1 h2=>zJ h.fr h1 h2
 have g5:w5.heap[c.gb]?=W.heap[c.gb]?:=k5 _ hgl (ne hg (by decide))
 have k6:∀ b,b<W.heap.size->b≠c.gb->fv.ownBlock≠some b->(w5.setCell ⟨c.gb,1,none⟩ v').heap[b]?=W.heap[b]?:=fun b hbl hn' hne=>(Below.heap_setCell _ _ _ _ (by simpa using hn')).trans (k5 b hbl hne)
 have hb5:Below c.w0.heap.size c.w0 w5:=(h.be.trans (hb.mono h.be.size)).grown q2 (Nat.le_trans h.be.size hsz) (fun k hk=>(h.fr.lt k hk).1)
 refine⟨⟨hb5.setCell ok.gb _,(k6 _ (zk h.pk) ok.pb.2 (ne h.pk (by decide))).trans h.pk,yq h.vk fun b cur hb' hc=>k6 b (zk hc) (hb' ▸ ok.vb.2) (ne hc (by decide)),h.th,h.vn,fun i hi=>?_,?_,?_,?_,h.dj,h.sl,h.si,h.ol,h.oi,by show (f :: s.frames).length<=31;simp only [List.length_cons];have:=ok.ml;omega,by show (f :: s.frames).length<=c.most;simp only [List.length_cons];omega,fun x hx=>?_,fun b o hb=>⟨(k6 _ (yC (h.ek b o hb).1) (xm (h.ek b o hb) hg (by unfold Wet;decide)) (far_own h.fr (h.ek b o hb) (by unfold Wet;decide))).trans (h.ek b o hb).1,(h.ek b o hb).2⟩⟩,zC 1 v' (g5.trans hg)⟩
 ·obtain⟨a1,a2,a3⟩:=h.vm i hi
  have hv:=ok.vs i (by rw[<-h.vn];exact hi)
  exact⟨a1,(k6 _ (zk a2) (by omega) (ne a2 (by decide))).trans a2,a3⟩
 ·show World.ownsRow _ _ _ _ _ (f :: s.frames).length (frs c (f :: s.frames))
  rw[kF,List.length_cons]
  refine z7 q1 fun b _ q3 q4=>Below.heap_setCell _ _ _ _ ?_
  intro e
  have e':b=c.gb:=e
  exact zJ q1 (g5.trans hg) (by decide) (e' ▸ q4)
 ·exact z7 h.st fun b q0 q1' q2'=>k6 b q1' (by omega) (yF h.st h.fr (by decide) q2')
 ·exact z7 h.ou fun b q0 q1' q2'=>k6 b q1' (by omega) (yF h.ou h.fr (by decide) q2')
 ·rcases List.mem_cons.1 hx with rfl|hx
  ·exact hf
  ·exact h.ff x hx
theorem takes_succ {base n:Nat}{l r:List Int}{s:St}{k:List Int->St->St}{v:Int}(hs:s.stack=v :: r) (h:¬s.stack.length<=base):Vm.takes base (n+1) l s k=Vm.takes base n (v :: l) { s with stack:=r } k:=by
 rw[Vm.takes,zM hs h]
theorem takes_no {base n:Nat}{l:List Int}{s:St}{k:List Int->St->St}(h:s.stack.length<=base):Vm.takes base (n+1) l s k=Vm.ended 8 s:=by
 rw[Vm.takes,yf h]
theorem Tryz.infoFrame:(Tryz.prog.info? 87).map (fun i=>(i.zero,i.size,i.bytes))=some (some (.agg #[.pointer none,.int .i64 0,.int .i64 0,.int .i64 0,.int .i64 0,.int .i64 0,.int .i64 0,.int .i64 0,.int .i64 0,.int .i64 0,.int .i64 0,.int .i64 0,.int .i64 0,.int .i64 0]),14,112):=by kernel_rfl
def locs (ar:Nat) (l:List Int):List Int:=zeros (ar - l.length)++l++zeros (10 - ar)
theorem xG {ar:Nat}{l:List Int}(h:l.length<=ar) (ha:ar<=10):(locs ar l).length=10:=by simp[locs,zeros];omega
theorem locs_nil {ar:Nat}(ha:ar<=10):locs ar []=zeros 10:=by
 simp only [locs,zeros,List.length_nil,Nat.sub_zero,List.append_nil,List.replicate_append_replicate]
 rw[show ar+(10 - ar)=10 by omega]
theorem locs_cons {ar:Nat}{l:List Int}(h:l.length<ar) (v:Int):locs ar (v :: l)=(locs ar l).set (ar - 1 - l.length) v:=by
 unfold locs zeros
 rw[List.append_assoc,List.append_assoc,show ar - l.length=(ar - (l.length+1))+1 by omega,List.replicate_succ',List.append_assoc,List.set_append_right _ _ (by simp;omega)]
 simp[show ar - 1 - l.length - (ar - (l.length+1))=0 by omega]
theorem locs_in {ar:Nat}{l:List Int}(h:∀ v∈l,I64 v):∀ v∈locs ar l,I64 v:=by
 intro v hv
 unfold locs zeros at hv
 rcases List.mem_append.1 hv with hv|hv
 ·rcases List.mem_append.1 hv with hv|hv
  ·rw[(List.mem_replicate.1 hv).2];unfold I64;omega
  ·exact h v hv
 ·rw[(List.mem_replicate.1 hv).2];unfold I64;omega
def frI (c:Vx) (a b m ar:Nat) (l:List Int):Fr:=⟨c.O.name,a,b,m,locs ar l⟩
theorem ten {l:List Int}(h:l.length=10):∃ v0 v1 v2 v3 v4 v5 v6 v7 v8 v9,l=[v0,v1,v2,v3,v4,v5,v6,v7,v8,v9]:=by
 match l,h with
 | [a,b,c,d,e,f,g,h,i,j],_=>exact⟨a,b,c,d,e,f,g,h,i,j,rfl⟩
structure IL (c:Vx) (s:St) (base:Nat) (vv:List (List Int)) (fv ov:Value) (a m ar x:Nat) (K:List Int->St->St) (j:Nat) (w:World):Prop where
 ex:∃(l r:List Int) (sv':Value),l.length=j/\Vm.takes base ar [] s K=Vm.takes base (ar - j) l { s with stack:=r } K/\MM c w { s with stack:=r } vv fv sv' ov/\G8 c w fv sv' ov s.way/\w.heap[x]?=some (.cells (frC c (frI c a 0 m ar l)).toArray 87 (0,0))/\(∀ v∈l,I64 v)/\base<=r.length
theorem invoke8 {c:Vx}{W:World}{s:St}{vv:List (List Int)}{fv sv ov:Value}(h:MM c W s vv fv sv ov) (ok:VxOk c) (hg:G8 c W fv sv ov s.way) {f:Fr}{fs:List Fr}(hf:s.frames=f :: fs) (hbs:f.base<=s.stack.length) (op:Int) {i:Nat}(hi:i<c.O.procs.length) :
  Calls Tryz.prog 114 #[.pointer (some ⟨c.gb,0,none⟩),.agg #[.int .i64 op,.int .i64 (i:Int),.int .i64 (-1)]] W (StepP c (Vm.invoke c.most f.base c.O.name ⟨c.O,vv⟩ i s)):=by
 obtain⟨fb,cap,hfv,hfb,hcap,hfc⟩:=h.top hf
 obtain⟨a,ar,m,ha,har,hm,hac,harm,hm10⟩:=ent8 ok hi
 have hgl:=zk hg
 have hpn:c.O.procs.length<=10:=by
  have hr:=ok.rt
  unfold Ob.rightB Ob.procsB at hr
  simp only [Bool.and_eq_true]at hr
  exact(Ob.allB_le hr.2.1.1).1
 obtain⟨w0,hw0⟩:∃ w0,w0=W.alloc (.cells #[.int .i64 op,.int .i64 (i:Int),.int .i64 (-1)] 68):=⟨_,rfl⟩
 have hb0:Below W.heap.size W w0:=by rw[hw0];exact zb _ _
 have hk0:w0.heap[W.heap.size]?=some (.cells #[.int .i64 op,.int .i64 (i:Int),.int .i64 (-1)] 68 (0,0)):=by rw[hw0];exact zw _ _
 have hl0:W.heap.size<w0.heap.size:=zk hk0
 have h0:=h.below ok hg hb0
 have g0:G8 c w0 fv sv ov s.way:=(hb0.block _ hgl).trans hg
 have HX:Hid (∀ w1,Below w0.heap.size w0 w1->w1.cell? ⟨W.heap.size,1,none⟩=some (.int .i64 (i:Int))/\w1.cell? ⟨W.heap.size,2,none⟩=some (.int .i64 (-1))/\w1.cell? ⟨fb,fs.length * 14,none⟩=some (.pointer (some ⟨c.pb,0,none⟩))):=fun w1 hb=>by
  have e:=(hb.block _ hl0).trans hk0
  have hW:=hb0.trans (hb.mono hb0.size)
  exact⟨(zc e).trans rfl,(zc e).trans rfl,(hW.cell (p:=⟨fb,fs.length * 14,none⟩) hfb).trans (hfc 0 _ rfl)⟩
 have HM:Hid (∀ w1,Below w0.heap.size w0 w1->MM c w1 s vv fv sv ov/\G8 c w1 fv sv ov s.way):=fun w1 hb=>⟨h0.below ok g0 hb,(hb.block _ (zk g0)).trans g0⟩
 have HLA:Hid (∀ w1,Below w0.heap.size w0 w1->Calls Tryz.prog 104 #[.pointer (some ⟨c.gb,0,none⟩)] w1 fun e W'=>e=.returned (.pointer (some ⟨fb,fs.length * 14,none⟩))/\Below w1.heap.size w1 W'):=fun w1 hb=>last8 (HM.out w1 hb).1 (HM.out w1 hb).2 hf hfv
 have HEN:Hid (∀ w1,Below w0.heap.size w0 w1->Calls Tryz.prog 40 #[.pointer (some ⟨c.pb,0,none⟩),.int .i64 (i:Int)] w1 fun e W'=>e=.returned (.agg #[.pointer (some ⟨c.pb,0,none⟩),.int .i64 (a:Int),.int .i64 0,.int .i64 (m:Int),.int .i64 0,.int .i64 0,.int .i64 0,.int .i64 0,.int .i64 0,.int .i64 0,.int .i64 0,.int .i64 0,.int .i64 0,.int .i64 0])/\Below w1.heap.size w1 W'):=fun w1 hb=>entered8 (HM.out w1 hb).1 ok hi a m ha hm
 have HD0:Hid (Below w0.heap.size w0 w0.drew):=zt w0
 obtain⟨x1,x2,x3⟩:=HX.out w0 (Below.refl _ _)
 have HS0:=zh (HX.out _ HD0.out)
 have hfl0:fb<w0.heap.size:=Nat.lt_of_lt_of_le hfb hb0.size
 have hfl:(s.frames.length:Int)<=31:=by have:=h.fl;omega
 have HF:=zh (And.intro hf (And.intro hfv hbs))
 have HOK:=zh ok
 have HE:=zh (And.intro ha (And.intro har (And.intro hm (And.intro hac (And.intro harm hm10)))))
 have HI:=zh hi
 have HFB:Hid (fv.ownBlock=some fb):=by rw[hfv];rfl
 have hii:(i:Int)<=10:=by omega
 have har10:(ar:Int)<=10:=by omega
 have hmost:(c.most:Int)<=31:=by have:=ok.ml;omega
 clear h ok hg hf hfc hfv hb0 hk0 h0 g0 hbs ha har hm
 go_enter Tryz.func114,Tryz.ntmps114
 go_upto_region 1 with fail
 rw[<-hw0]
 clear hw0
 go_region_held3 (fun w1=>w1.cell? ⟨W.heap.size,1,none⟩=some (.int .i64 (i:Int))/\w1.cell? ⟨W.heap.size,2,none⟩=some (.int .i64 (-1))/\w1.cell? ⟨fb,fs.length * 14,none⟩=some (.pointer (some ⟨c.pb,0,none⟩))) (with_reducible (first|exact HS1.out|exact HS0.out)) (first|(go_at_call 104;refine(HLA.out _ HD0.out).mono ?_;rintro e w1 ⟨rfl,hb1⟩;have HB1:Hid (Below w0.heap.size w0 w1):=HD0.out.trans (hb1.mono HD0.out.size);have HS1:=zh (HX.out w1 HB1.out);clear hb1))
 obtain⟨_,y2,_⟩:=HX.out w1 HB1.out
 have hxl1:W.heap.size<w1.heap.size:=Nat.lt_of_lt_of_le hl0 HB1.out.size
 obtain⟨hm1,hg1⟩:=HM.out w1 HB1.out
 obtain⟨fa,fc,hfs⟩:=zy hm1.fr
 have k1:w1.cell? ⟨c.gb,1,none⟩=some (.slice fa s.frames.length fc):=(zc hg1).trans (by rw[hfs];rfl)
 have k2:w1.cell? ⟨c.gb,2,none⟩=some (.int .i64 (c.most:Int)):=(zc hg1).trans rfl
 have hgl1:c.gb<w1.heap.size:=zk hg1
 by_cases hmo:s.frames.length=c.most
 ·have HEND:Hid (∀ w2,Below w1.heap.size w1 w2->StepP c (Vm.invoke c.most f.base c.O.name ⟨c.O,vv⟩ i s) (.returned (.tuple #[])) (w2.setCell ⟨c.gb,5,none⟩ (.int .i64 4))/\w2.cell? ⟨c.gb,5,none⟩=some (.int .i64 (s.way:Int))/\w2.frozen? ⟨c.gb,5,none⟩=false/\c.gb<w2.heap.size):=fun w2 hb=>by
   have hm2:=hm1.below HOK.out hg1 hb
   have hg2:G8 c w2 fv sv ov s.way:=(hb.block _ (zk hg1)).trans hg1
   refine⟨⟨rfl,?_⟩,(zc hg2).trans rfl,zr hg2,zk hg2⟩
   unfold Vm.invoke
   rw[if_pos hmo]
   exact MV.end hm2 HOK.out hg2 4
  rw[hmo]at k1
  clear hm1 hg1 HM HLA HEN hfs hmo hfl HX HS0 HS1
  generalize (s.way:Int)=wy at *
  generalize c.most=mo at *
  go_wp2_with fail
  go_quiet (fail)
  obtain⟨hfin,k5,z5,hgl2⟩:=HEND.out (w1.drewN nq) (below_drewN w1 nq)
  have HFIN:=zh hfin
  clear hfin
  go_wp2_with fail
  first|exact ze rfl rfl HFIN.out|exact bodyPost_ret (v:=.tuple #[]) (by simp[results,Tryz.results114,go_sem]) rfl HFIN.out
 ·have hmo':¬((s.frames.length:Int)=(c.most:Int)):=by omega
  have HINV:Hid (Vm.invoke c.most f.base c.O.name ⟨c.O,vv⟩ i s=Vm.takes f.base ar [] s (Vm.enter c.O.name ⟨c.O,vv⟩ i)):=by
   show _=_
   unfold Vm.invoke
   rw[if_neg hmo]
   show Vm.takes _ ((c.O.procs[i]?.map _).getD 0) _ _ _=_
   rw[List.getElem?_eq_getElem HI.out]
   simp[HE.out.2.1]
  generalize Vm.invoke c.most f.base c.O.name ⟨c.O,vv⟩ i s=TG at *
  clear hm1 hg1 HLA HS0 HS1 hfs
  go_wp2_with fail
  go_quiet (fail)
  obtain⟨w2,hw2⟩:∃ w2,w2=w1.drewN nq:=⟨_,rfl⟩
  have HB2:Hid (Below w0.heap.size w0 w2):=by rw[hw2];exact HB1.out.trans ((below_drewN w1 nq).mono HB1.out.size)
  rw[<-hw2]
  clear hw2
  have HEC:=zh (HEN.out w2 HB2.out)
  go_wp2_with fail
  refine HEC.out.mono ?_
  rintro e w3 ⟨rfl,hb3⟩
  have HB3:Hid (Below w0.heap.size w0 w3):=HB2.out.trans (hb3.mono HB2.out.size)
  obtain⟨w4,hw4⟩:∃ w4,w4=w3.alloc (.cells #[.pointer (some ⟨c.pb,0,none⟩),.int .i64 (a:Int),.int .i64 0,.int .i64 (m:Int),.int .i64 0,.int .i64 0,.int .i64 0,.int .i64 0,.int .i64 0,.int .i64 0,.int .i64 0,.int .i64 0,.int .i64 0,.int .i64 0] 87):=⟨_,rfl⟩
  have HB4:Hid (Below w0.heap.size w0 w4):=by rw[hw4];exact HB3.out.alloc HB3.out.size _
  have hk4:w4.heap[w3.heap.size]?=some (.cells #[.pointer (some ⟨c.pb,0,none⟩),.int .i64 (a:Int),.int .i64 0,.int .i64 (m:Int),.int .i64 0,.int .i64 0,.int .i64 0,.int .i64 0,.int .i64 0,.int .i64 0,.int .i64 0,.int .i64 0,.int .i64 0,.int .i64 0] 87 (0,0)):=by rw[hw4];exact zw _ _
  obtain⟨x,hx⟩:∃ x,x=w3.heap.size:=⟨_,rfl⟩
  have hx0:w0.heap.size<=x:=by rw[hx];exact HB3.out.size
  obtain⟨hm4,hg4⟩:=HM.out w4 HB4.out
  obtain⟨eb,eo,pc,k4,heb,hob,e0,e1,e2⟩:=entry8 HOK.out hm4.be HI.out
  rw[HE.out.2.1]at e1
  have kp:w4.cell? ⟨c.pb,0,none⟩=some (.pointer (some ⟨c.ob,c.oo,none⟩)):=(zc hm4.pk).trans rfl
  have hpl:=zk hm4.pk
  have hwx:c.w0.heap.size<=x:=Nat.le_trans (HM.out w0 (Below.refl _ _)).1.be.size hx0
  have hnx:Hid (fv.ownBlock≠some x):=fun e=>by
   have:=HFB.out.symm.trans e
   simp only [Option.some.injEq]at this
   omega
  have HL0:Hid (IL c s f.base vv fv ov a m ar x (Vm.enter c.O.name ⟨c.O,vv⟩ i) 0 w4):=⟨[],s.stack,sv,rfl,rfl,hm4,hg4,by
   rw[hx,hk4]
   unfold frI
   rw[locs_nil (by have:=HE.out.2.2.2.2;omega)]
   rfl,(fun v hv=>by cases hv),HF.out.2.2⟩
  have hii':(i:Int)<(c.O.procs.length:Int):=by have:=HI.out;omega
  clear hm4 hg4 hk4 hb3 e0 e2 HEC HEN
  go_upto_region 10 with fail
  rw[<-hx,<-hw4]
  clear hw4 hx
  go_wp2_with fail
  go_loopg [9] ar (fun k vi wr=>∃ j:Nat,j<=ar/\k=ar - j/\vi=.int .i64 ((ar:Int) - 1 - (j:Int))/\Hid (IL c s f.base vv fv ov a m ar x (Vm.enter c.O.name ⟨c.O,vv⟩ i) j wr))
  case atStart=>exact⟨0,by omega,by omega,by simp,HL0⟩
  case round =>
   obtain⟨j,hjd,hkj,rfl,HL⟩:=hrel
   by_cases hlt:j<ar
   ·obtain⟨kk,hkk⟩:∃ kk:Nat,(ar:Int) - 1 - (j:Int)=(kk:Int):=⟨ar - 1 - j,by omega⟩
    have hkk0:(kk:Int)<10:=by omega
    rw[hkk]
    obtain⟨l,r,sv',hll,htk,hm5,hg5,hb5,hli,hbr⟩:=HL.out.ex
    have HT:=zh (take8 (s:={ s with stack:=r }) hm5 HOK.out hg5 HF.out.1)
    have HSI:=zh hm5.si
    have hxl:x<wr.heap.size:=zk hb5
    have hxg:x≠c.gb:=by
     have:=(HM.out w0 (Below.refl _ _)).2
     have:=zk this
     omega
    have HPK:Hid (∀ w6,Kg c wr w6->w6.heap[x]?=some (.cells (frC c (frI c a 0 m ar l)).toArray 87 (0,0))):=fun w6 hk=>(hk.block _ hxl hxg).trans hb5
    have HLL:=zh (And.intro hll (And.intro htk hli))
    clear hm5 hg5 hb5 hli htk HL HL0
    go_wp2_with fail
    refine HT.out.mono ?_
    intro e w6 hq
    obtain⟨hkg,hq⟩:=hq
    have hb6:=HPK.out w6 hkg
    by_cases h1:r.length<=f.base
    ·rw[if_pos h1]at hq
     obtain⟨rfl,hm6,hg6⟩:=hq
     have HFIN:Hid (StepP c TG (.returned (.tuple #[])) w6):=⟨rfl,by
      rw[HINV.out,HLL.out.2.1,show ar - j=(ar - j - 1)+1 by omega,takes_no h1]
      exact hm6.mv8 hg6⟩
     clear hkg hm6 hg6 hb6 h1 HT
     go_wp2_with fail
     first|exact ze rfl rfl HFIN.out|exact bodyPost_ret (v:=.tuple #[]) (by simp[results,Tryz.results114,go_sem]) rfl HFIN.out
    ·rw[if_neg h1]at hq
     obtain⟨n,r',sv2,hs,rfl,hm6,hg6⟩:=hq
     have hs':r=n :: r':=hs
     have hn:I64 n:=HSI.out n (by show n∈r;rw[hs'];simp)
     have hj1:l.length<ar:=by rw[hll];exact hlt
     have hkk':kk=ar - 1 - l.length:=by rw[hll];omega
     obtain⟨f1,f2⟩:=hm6.fbox hg6 hb6 hnx.out hwx (4+kk) (.int .i64 n)
     have HNX:Hid (IL c s f.base vv fv ov a m ar x (Vm.enter c.O.name ⟨c.O,vv⟩ i) (j+1) (w6.setCell ⟨x,4+kk,none⟩ (.int .i64 n))):=⟨n :: l,r',sv2,by rw[List.length_cons,hll],by
       rw[HLL.out.2.1,show ar - j=(ar - (j+1))+1 by omega]
       exact takes_succ (s:={ s with stack:=r }) hs h1,f1,f2,by
       rw[zC (4+kk) (.int .i64 n) hb6]
       have e:frC c (frI c a 0 m ar (n :: l))=(frC c (frI c a 0 m ar l)).set (4+kk) (.int .i64 n):=by
        unfold frI
        rw[locs_cons hj1,<-hkk',Nat.add_comm 4 kk]
        exact vx c ⟨c.O.name,a,0,m,locs ar l⟩ kk n
       rw[e]
       simp,fun v hv=>by
       rcases List.mem_cons.1 hv with rfl|hv
       ·exact hn
       ·exact HLL.out.2.2 v hv,by
       have:r.length=r'.length+1:=by rw[hs'];rfl
       omega⟩
     have hzx:w6.frozen? ⟨x,4+kk,none⟩=false:=zr hb6
     have hcx:∃ u,w6.cell? ⟨x,4+kk,none⟩=some u:=by
      have hl10:(locs ar l).length=10:=xG (by omega) (by have:=HE.out.2.2.2.2;omega)
      exact⟨.int .i64 ((locs ar l)[kk]'(by omega)),(zc hb6).trans (by rw[List.getElem?_toArray,Nat.add_comm 4 kk];exact ub c (frI c a 0 m ar l) kk (by show kk<(locs ar l).length;omega))⟩
     obtain⟨u0,hcx⟩:=hcx
     have hxl6:x<w6.heap.size:=zk hb6
     clear hkg hm6 hg6 hb6 h1 HT hs hs' f1 f2 hj1 hkk' hn hll
     go_wp2_with fail
     go_roundg (ar - (j+1))
     case measure=>omega
     case rel=>exact⟨j+1,by omega,rfl,by rw[<-hkk];congr 1;omega,HNX⟩
   ·have hja:j=ar:=by omega
    subst hja
    obtain⟨l,r,sv',hll,htk,hm5,hg5,hb5,hli,hbr⟩:=HL.out.ex
    obtain⟨sa,sc,hsv⟩:=zy hm5.st
    have hsv:sv'=.slice sa r.length sc:=hsv
    subst hsv
    have hnlt:¬(0<=(j:Int) - 1 - (j:Int)):=by omega
    have hm10':m<=10:=HE.out.2.2.2.2.2
    have harm':j<=m:=HE.out.2.2.2.2.1
    have hTG:TG={ ({ s with stack:=r }:St) with frames:=frI c a r.length m j l :: s.frames }:=by
     rw[HINV.out,htk,Nat.sub_self]
     show Vm.enter _ _ _ _ _=_
     unfold Vm.enter
     show (match c.O.procs[i]? with|some e=>_|none=>_)=_
     rw[List.getElem?_eq_getElem HI.out]
     simp only [HE.out.1,HE.out.2.2.1,Int.toNat_natCast,frI,locs,hll,Nat.sub_self,zeros,List.replicate_zero,List.nil_append]
    have hfo:FrOk c (frI c a r.length m j l):=⟨rfl,xG (by omega) (by omega),locs_in hli,hm10',by have:=HE.out.2.2.2.1;have:=zP HOK.out;show a<=4000;omega,by have:=hm5.sl;exact this⟩
    obtain⟨v0,v1,v2,v3,v4,v5,v6,v7,v8,v9,hL⟩:∃ v0 v1 v2 v3 v4 v5 v6 v7 v8 v9,locs j l=[v0,v1,v2,v3,v4,v5,v6,v7,v8,v9]:=ten (xG (by omega) (by omega))
    obtain⟨rl,hrl⟩:∃ rl,rl=r.length:=⟨_,rfl⟩
    rw[<-hrl]at hTG hfo
    have hfrc:frC c (frI c a rl m j l)=#[.pointer (some ⟨c.pb,0,none⟩),.int .i64 (a:Int),.int .i64 (rl:Int),.int .i64 (m:Int),.int .i64 v0,.int .i64 v1,.int .i64 v2,.int .i64 v3,.int .i64 v4,.int .i64 v5,.int .i64 v6,.int .i64 v7,.int .i64 v8,.int .i64 v9].toList:=by
     unfold frC frI
     simp only [hL]
     rfl
    have hb5':wr.heap[x]?=some (.cells #[.pointer (some ⟨c.pb,0,none⟩),.int .i64 (a:Int),.int .i64 0,.int .i64 (m:Int),.int .i64 v0,.int .i64 v1,.int .i64 v2,.int .i64 v3,.int .i64 v4,.int .i64 v5,.int .i64 v6,.int .i64 v7,.int .i64 v8,.int .i64 v9] 87 (0,0)):=by
     rw[hb5]
     unfold frC frI
     simp only [hL]
     rfl
    obtain⟨f1,f2⟩:=hm5.fbox hg5 hb5 hnx.out hwx 2 (.int .i64 (rl:Int))
    have k3:wr.cell? ⟨c.gb,3,none⟩=some (.slice sa rl sc):=(zc hg5).trans (by rw[hrl];rfl)
    have kx2:wr.cell? ⟨x,2,none⟩=some (.int .i64 0):=(zc hb5').trans rfl
    have zx2:wr.frozen? ⟨x,2,none⟩=false:=zr hb5'
    have hxl:x<wr.heap.size:=zk hb5'
    have hglr:c.gb<wr.heap.size:=zk hg5
    obtain⟨w6,hw6⟩:∃ w6,w6=wr.setCell ⟨x,2,none⟩ (.int .i64 (rl:Int)):=⟨_,rfl⟩
    have hb6:w6.heap[x]?=some (.cells #[.pointer (some ⟨c.pb,0,none⟩),.int .i64 (a:Int),.int .i64 (rl:Int),.int .i64 (m:Int),.int .i64 v0,.int .i64 v1,.int .i64 v2,.int .i64 v3,.int .i64 v4,.int .i64 v5,.int .i64 v6,.int .i64 v7,.int .i64 v8,.int .i64 v9] 87 (0,0)):=by rw[hw6,zC 2 (.int .i64 (rl:Int)) hb5'];rfl
    rw[<-hw6]at f1 f2
    obtain⟨fa',fc',hfs'⟩:=zy f1.fr
    have hfs':fv=.slice fa' s.frames.length fc':=hfs'
    subst hfs'
    have k1:w6.cell? ⟨c.gb,1,none⟩=some (.slice fa' s.frames.length fc'):=(zc f2).trans rfl
    have hc:∀ w7,Below w6.heap.size w6 w7->∀ q,w7.cell? ⟨x,q,none⟩=(#[.pointer (some ⟨c.pb,0,none⟩),.int .i64 (a:Int),.int .i64 (rl:Int),.int .i64 (m:Int),.int .i64 v0,.int .i64 v1,.int .i64 v2,.int .i64 v3,.int .i64 v4,.int .i64 v5,.int .i64 v6,.int .i64 v7,.int .i64 v8,.int .i64 v9]:Array Value)[q]?:=fun w7 hb q=>(zc ((hb.block _ (zk hb6)).trans hb6))
    have HFIN:Hid (∀ w7 w8 v8',Below w6.heap.size w6 w7->w8.ownsRow c.w0.heap.size 87 14 v8' (s.frames.length+1) (frs c s.frames++#[.pointer (some ⟨c.pb,0,none⟩),.int .i64 (a:Int),.int .i64 (rl:Int),.int .i64 (m:Int),.int .i64 v0,.int .i64 v1,.int .i64 v2,.int .i64 v3,.int .i64 v4,.int .i64 v5,.int .i64 v6,.int .i64 v7,.int .i64 v8,.int .i64 v9].toList)->w7.grownBy w8 (Value.slice fa' s.frames.length fc').ownBlock->StepP c TG (.returned (.tuple #[])) (w8.setCell ⟨c.gb,1,none⟩ v8')/\w8.heap[c.gb]?=w6.heap[c.gb]?):=fun w7 w8 v8' hb q1 q2=>by
     rw[<-hfrc]at q1
     obtain⟨p1,p2⟩:=f1.pushf HOK.out f2 hb (by have h':s.frames.length<=c.most:=f1.fm;show s.frames.length<c.most;omega) hfo q1 q2
     refine⟨⟨rfl,?_⟩,(q2.block _ (Nat.lt_of_lt_of_le (zk f2) hb.size) (fun e=>zJ f1.fr f2 (by decide) e.symm)).trans (hb.block _ (zk f2))⟩
     rw[hTG]
     exact⟨_,_,_,_,p1,p2⟩
    have HOW:Hid (∀ w7,Below w6.heap.size w6 w7->w7.ownsRow c.w0.heap.size 87 14 (.slice fa' s.frames.length fc') s.frames.length (frs c s.frames)):=fun w7 hb=>z7 f1.fr fun b _ hl _=>hb.block b hl
    have HG6:=zh f2
    have HB6:=zh f1.be
    have HCX:=zh hc
    have hgl6:c.gb<w6.heap.size:=zk f2
    have hx6:x<w6.heap.size:=zk hb6
    obtain⟨i1,hi1,hz0,hz1,hz2⟩:=info_parts Tryz.infoFrame
    have c0:=hc w6 (Below.refl _ _) 0
    have c1:=hc w6 (Below.refl _ _) 1
    have c2:=hc w6 (Below.refl _ _) 2
    have c3:=hc w6 (Below.refl _ _) 3
    have c4:=hc w6 (Below.refl _ _) 4
    have c5:=hc w6 (Below.refl _ _) 5
    have c6:=hc w6 (Below.refl _ _) 6
    have c7:=hc w6 (Below.refl _ _) 7
    have c8:=hc w6 (Below.refl _ _) 8
    have c9:=hc w6 (Below.refl _ _) 9
    have c10:=hc w6 (Below.refl _ _) 10
    have c11:=hc w6 (Below.refl _ _) 11
    have c12:=hc w6 (Below.refl _ _) 12
    have c13:=hc w6 (Below.refl _ _) 13
    simp only [List.getElem?_toArray,List.getElem?_cons_zero,List.getElem?_cons_succ]at c0 c1 c2 c3 c4 c5 c6 c7 c8 c9 c10 c11 c12 c13
    clear hrl hm5 hg5 hb5 hb5' hli htk HL HL0 hTG hfo hL hfrc f1 f2 hc hb6 hbr hll
    generalize hnf:s.frames.length=nf at *
    have hnf31:nf<=31:=by omega
    go_upto_region 17 with fail
    rw[<-hw6]
    clear hw6 kx2 zx2 k3
    go_region_law (first|(refine yv rfl (.tmp 90) (.tmp 92) 88 rfl c.w0.heap.size 87 i1 (.agg #[.pointer none,.int .i64 0,.int .i64 0,.int .i64 0,.int .i64 0,.int .i64 0,.int .i64 0,.int .i64 0,.int .i64 0,.int .i64 0,.int .i64 0,.int .i64 0,.int .i64 0,.int .i64 0]) 14 112 Tryz.underlying88 hi1 hz0 hz1 hz2 rfl (by decide) (.slice fa' nf fc') nf (frs c s.frames) (by simp[Act.eval]) ?own ⟨w6.heap.size,0,none⟩ 1 1 #[.pointer (some ⟨c.pb,0,none⟩),.int .i64 (a:Int),.int .i64 (rl:Int),.int .i64 (m:Int),.int .i64 v0,.int .i64 v1,.int .i64 v2,.int .i64 v3,.int .i64 v4,.int .i64 v5,.int .i64 v6,.int .i64 v7,.int .i64 v8,.int .i64 v9].toList (by simp[Act.eval]) rfl ?news (by intro u hu;simp at hu;rcases hu with rfl|rfl|rfl|rfl|rfl|rfl|rfl|rfl|rfl|rfl|rfl|rfl|rfl|rfl <;> rfl) (by unfold maxLen;omega) (by omega) ?base ?_;(case own=>exact HOW.out _ (by first|exact zb _ _|exact(zt w6).alloc zn _|exact(zb _ _).drew));(case news=>(intro j u hj;rw[Addr.add_lit];first|exact((zc (zw w6 _)).trans (by simpa using hj))|exact((zc (zw w6.drew _)).trans (by simpa using hj))));(case base=>have:=HB6.out.size;simp;omega);intro v8' w8 q1 q2 q3;obtain⟨a8,c8',hv8⟩:=zy q1;subst hv8;have HN:=HFIN.out _ w8 _ (by first|exact zb _ _|exact(zt w6).alloc zn _|exact(zb _ _).drew) q1 q2;have HG8:=HN.2.trans HG6.out;have k18:w8.cell? ⟨c.gb,1,none⟩=some (.slice fa' nf fc'):=(zc HG8).trans rfl;have z18:w8.frozen? ⟨c.gb,1,none⟩=false:=zr HG8;have l18:c.gb<w8.heap.size:=zi k18;have HFIN:=zh HN.1;clear HN HG8 q1 q2 q3))
    all_goals
     go_wp2_with fail
     first|exact ze rfl rfl HFIN.out|exact bodyPost_ret (v:=.tuple #[]) (by simp[results,Tryz.results114,go_sem]) rfl HFIN.out
theorem code8 {c:Vx}{W:World}(ok:VxOk c) (be:Below c.w0.heap.size c.w0 W) {i:Nat}(hi:i<c.O.code.length):∃ b o cc,W.cell? ⟨c.ob,c.oo+6,none⟩=some (.slice (some ⟨b,o,none⟩) c.O.code.length cc)/\b<W.heap.size/\c.ob<W.heap.size/\W.cell? ⟨b,o+i * 3,none⟩=some (.int .i64 c.O.code[i].op)/\W.cell? ⟨b,o+i * 3+1,none⟩=some (.int .i64 c.O.code[i].a)/\W.cell? ⟨b,o+i * 3+2,none⟩=some (.int .i64 c.O.code[i].b):=by
 obtain⟨sa,ua,va,pa,na,ca,sc,uc,vc,pc,nc,cc,h⟩:=ok.oa.below be
 obtain⟨b,o,rfl,hb,hc⟩:=Sl.at' jn (by omega) h.c i hi
 exact⟨b,o,cc,by simpa using h.c6,hb,zi h.c6,hc 0 _ rfl,by simpa[Nat.add_assoc] using hc 1 _ rfl,by simpa[Nat.add_assoc] using hc 2 _ rfl⟩
theorem yu (c:Vx) (f:Fr) (k:Nat):frC c { f with at':=k }=(frC c f).set 1 (.int .i64 (k:Int)):=rfl
theorem inst8 {c:Vx}(ok:VxOk c) {i:Nat}(hi:i<c.O.code.length):Ob.instB c.O c.O.code[i]=true:=by
 have h:=ok.rt
 unfold Ob.rightB Ob.codeB at h
 simp only [Bool.and_eq_true]at h
 exact(Ob.allB_le h.2.2.1).2 _ (List.getElem_mem hi)
theorem reach8 {c:Vx}(ok:VxOk c) {x:In}{own:Nat}(h:Ob.reachB c.O x own=true):x.b=-1/\0<=x.a/\x.a<(own:Int):=by
 unfold Ob.reachB at h
 split at h
 ·rename_i hb
  simp only [Ob.countsB,Bool.and_eq_true,decide_eq_true_eq]at h
  exact⟨hb,h.1,h.2⟩
 ·simp only [Ob.countsB,Bool.and_eq_true,decide_eq_true_eq]at h
  have:=ok.us
  rw[this]at h
  simp at h
  omega
end Go.Proofs.YtmnedfdffbbchaaGreatDoor.Jo
