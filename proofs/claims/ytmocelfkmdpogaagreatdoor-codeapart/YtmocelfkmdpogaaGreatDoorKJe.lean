import Derived.Test.YtmocelfkmdpogaaGreatDoorKJd
set_option maxRecDepth 100000
set_option maxHeartbeats 4000000
namespace Go.Proofs.YtmocelfkmdpogaaGreatDoor.Jo
open Go.RowKit
open Ob (Bs)
structure RB (O:Ob.O):Prop where
 nm:O.name.length<=10
 sl:O.syms.length<=20
 s:∀ x∈O.syms,x.name.length<=10/\Ob.I64 x.len/\Ob.I64 x.args
 ul:O.uses.length<=6
 u:∀ x∈O.uses,x.name.length<=10/\x.need.length<=4000/\x.names.length<=100/\∀ y∈x.names,y.length<=10
 vl:O.vars.length<=10
 v:∀ x∈O.vars,x.name.length<=10/\x.at'=0/\Ob.I64 x.len
 pl:O.procs.length<=10
 p:∀ x∈O.procs,Ob.I64 x.at'/\Ob.I64 x.args/\Ob.I64 x.locals
 nl:O.names.length<=10
 n:∀ x∈O.names,x.length<=10
 pn:O.procs.length=O.names.length
 cl:O.code.length<=4000
 c:∀ x∈O.code,Ob.I64 x.op/\Ob.I64 x.a/\Ob.I64 x.b
theorem yP {α:Type}(f:α->Bs) (m:Bs) (l:List α) (i:Nat) (h:i<l.length):m++((l.take i).map f).flatten++f l[i]=m++((l.take (i+1)).map f).flatten:=by
 rw[List.take_succ_eq_append_getElem h,List.map_append,List.flatten_append,List.append_assoc];simp
theorem lst_eq {α:Type}(f:α->Bs) (m:Bs) (l:List α):m++Ob.lst f l=m++Ob.num (l.length:Int)++(l.map f).flatten:=by simp[Ob.lst]
theorem jy {α:Type}(f:α->Bs) (k:Nat) (l:List α) (h:∀ x∈l,(f x).length<=k) (hl:l.length<=1000000):(Ob.lst f l).length<=10+k * l.length:=by
 have h1:=zY (n:=(l.length:Int)) (by unfold Ob.I64;omega)
 have h2:((l.map f).flatten).length<=k * l.length:=by
  clear hl h1
  induction l with
  | nil=>simp
  | cons x l ih =>
   have:=h x (by simp)
   have:=ih (fun y hy=>h y (by simp[hy]))
   simp only [List.map_cons,List.flatten_cons,List.length_append,List.length_cons]
   rw[Nat.mul_add];omega
 unfold Ob.lst
 rw[List.length_append];omega
theorem ql {x:Ob.Sm}(h:x.name.length<=10/\Ob.I64 x.len/\Ob.I64 x.args):(Ob.smW x).length<=40:=by
 have h1:=yv (s:=x.name) (by omega)
 have h2:=zY h.2.1
 have h3:=zY h.2.2
 unfold Ob.smW;simp only [List.length_append];omega
theorem qf {x:Ob.Us}(h:x.name.length<=10/\x.need.length<=4000/\x.names.length<=100/\∀ y∈x.names,y.length<=10):(Ob.usW x).length<=6040:=by
 have h1:=yv (s:=x.name) (by omega)
 have h2:=yv (s:=x.need) (by omega)
 have h3:=jy Ob.txt 20 x.names (fun y hy=>by have:=h.2.2.2 y hy;have:=yv (s:=y) (by omega);omega) (by omega)
 unfold Ob.usW;simp only [List.length_append];omega
theorem glW_len {x:Ob.Gl}(h:x.name.length<=10/\x.at'=0/\Ob.I64 x.len):(Ob.glW x).length<=31:=by
 have h1:=yv (s:=x.name) (by omega)
 have h2:=zY h.2.2
 unfold Ob.glW;simp only [List.length_append,List.length_singleton];omega
theorem yI {α:Type}(f:α->Bs) (k:Nat) (m:Bs) (l:List α) (h:∀ x∈l,(f x).length<=k) (i:Nat):(m++((l.take i).map f).flatten).length<=m.length+k * i:=by
 induction i with
 | zero=>simp
 | succ i ih =>
  by_cases hi:i<l.length
  ·rw[<-yP f m l i hi,List.length_append]
   have:=h l[i] (List.getElem_mem hi)
   rw[Nat.mul_add];omega
  ·rw[List.take_of_length_le (by omega)]at ih ⊢
   rw[Nat.mul_add];omega
theorem Wr.new {wb gb:Nat}{w w':World}{v v':Value}{cs:Array Value}{t:TypeId}(k:Wr wb w v w' v') (hb:w.heap[gb]?=some (.cells cs t (0,0))) (h1:gb≠wb) (h2:v.ownBlock≠some gb):w'.heap[gb]?=some (.cells cs t (0,0)):=(k.block gb (zi hb) h1 h2).trans hb
theorem Wst.box {w:World}{wb:Nat}{v:Value}{l:Bs}(h:Wst w wb v l) (ob:Obj):Wst (w.alloc ob) wb v l/\Wr wb w v (w.alloc ob) v/\(w.alloc ob).heap[w.heap.size]?=some ob/\w.heap.size≠wb/\v.ownBlock≠some w.heap.size :=
 have hb:Below w.heap.size w (w.alloc ob):=(Below.refl _ _).alloc (Nat.le_refl _) _
 ⟨h.below hb,Wr.of hb,zk _ _,by have:=h.le;omega,h.notNew⟩
theorem head_w {w0 w:World}{wb b o:Nat}{v:Value}{O:Ob.O}(h:Wst w wb v []) (hO:OA w0 b o O) (hR:RB O) (hb0:Below w0.heap.size w0 w) (hw0:w0.heap.size<=wb) :
  Calls Tryz.prog 45 #[.pointer (some ⟨wb,0,none⟩),.pointer (some ⟨b,o,none⟩)] w (Wrote wb w v (Ob.headW O)):=by
 obtain⟨sa,ua,va,pa,na,ca,sc,uc,vc,pc,nc,cc,hV⟩:=hO
 have HV:=Lib.hid hV
 have HR:=Lib.hid hR
 have HB0:=Lib.hid hb0
 have HH:=Lib.hid h
 have hbl:=zc hV.c0
 have hb1:b<w.heap.size:=Nat.lt_of_lt_of_le hbl hb0.size
 have hnl:=hR.nm
 have hsl:=hR.sl
 have hul:=hR.ul
 have hvl:=hR.vl
 have HT:Hid (Ob.headW O=Ob.txt O.name++Ob.lst Ob.smW O.syms++Ob.lst Ob.usW O.uses++Ob.lst Ob.glW O.vars):=rfl
 generalize Ob.headW O=T at *
 have hc0:w.cell? ⟨b,o,none⟩=some (.string (bs O.name)):=(hb0.cell (p:=⟨b,o,none⟩) hbl).trans hV.c0
 have HC:=Lib.hid (xz h O.name (by simp;omega))
 have HL0:Hid ((Ob.txt O.name).length<=20):=by have:=yv (s:=O.name) (by omega);show _<=_;omega
 rw[List.nil_append]at HC
 generalize Ob.txt O.name=t0 at *
 clear hV hR hb0 h
 go_enter Tryz.func45,Tryz.ntmps45
 go_wp2_with fail
 refine HC.out.mono ?_
 rintro e w1 ⟨rfl,v1,h1,h2⟩
 have hB1:=HB0.out.trans (HH.out.toBelow h2 hw0)
 have hc1:w1.cell? ⟨b,o+1,none⟩=some (.slice sa O.syms.length sc):=(hB1.cell (p:=⟨b,o+1,none⟩) hbl).trans HV.out.c1
 have hb1:b<w1.heap.size:=zc hc1
 have HW1:=Lib.hid h2
 have HC1:=Lib.hid (xI h1 (O.syms.length:Int) (by unfold Ob.I64;omega) (by have:=HL0.out;omega))
 have HL1:Hid ((t0++Ob.num (O.syms.length:Int)).length<=30):=by have:=HL0.out;have h3:=zY (n:=(O.syms.length:Int)) (by unfold Ob.I64;omega);show _<=_;rw[List.length_append];omega
 have HT1:Hid (T=t0++Ob.num (O.syms.length:Int)++(O.syms.map Ob.smW).flatten++Ob.lst Ob.usW O.uses++Ob.lst Ob.glW O.vars):=by rw[HT.out,lst_eq Ob.smW];exact rfl
 generalize t0++Ob.num (O.syms.length:Int)=t1 at *
 clear h1 h2 HC hc0 HT HL0 hB1
 go_wp2_with fail
 refine HC1.out.mono ?_
 rintro e w2 ⟨rfl,v2,h3,h4⟩
 have HW2:=Lib.hid (HW1.out.trans h4)
 have hB2:=HB0.out.trans (HH.out.toBelow HW2.out hw0)
 have hc2:w2.cell? ⟨b,o+1,none⟩=some (.slice sa O.syms.length sc):=(hB2.cell (p:=⟨b,o+1,none⟩) hbl).trans HV.out.c1
 have hb2:b<w2.heap.size:=zc hc2
 have HS2:=Lib.hid h3
 have HLT:=HL1
 clear h3 h4 HC1 HW1 hc1 hB2
 go_wp2_with fail
 go_loopg [28] O.syms.length (fun k vi wr=>∃(i:Nat) (v':Value),i<=O.syms.length/\k=O.syms.length - i/\vi=.int .i64 (i:Int)/\Hid (Wst wr wb v' (t1++((O.syms.take i).map Ob.smW).flatten))/\Hid (Wr wb w v wr v'))
 case atStart=>exact⟨0,_,by omega,by omega,rfl,by simpa using HS2,HW2⟩
 case round =>
  obtain⟨i,v3,hid,hk,rfl,HST,HW⟩:=hrel
  clear HS2 HW2 hc2 hb2
  by_cases hlt:i<O.syms.length
  ·have hlt':(i:Int)<(O.syms.length:Int):=by omega
   have hbw:Below w0.heap.size w0 wr:=HB0.out.trans (HH.out.toBelow HW.out hw0)
   obtain⟨g,go,rfl,hgl,hcell⟩:=HV.out.s.at' smC_len (by omega) i hlt
   have e0:wr.cell? ⟨g,go+i * 3,none⟩=some (.string (bs O.syms[i].name)):=(hbw.cell (p:=⟨g,go+i * 3,none⟩) hgl).trans (hcell 0 _ rfl)
   have e1:wr.cell? ⟨g,go+i * 3+1,none⟩=some (.int .i64 O.syms[i].len):=(hbw.cell (p:=⟨g,go+i * 3+1,none⟩) hgl).trans (hcell 1 _ rfl)
   have e2:wr.cell? ⟨g,go+i * 3+2,none⟩=some (.int .i64 O.syms[i].args):=(hbw.cell (p:=⟨g,go+i * 3+2,none⟩) hgl).trans (hcell 2 _ rfl)
   clear hcell
   have hx:=HR.out.s O.syms[i] (List.getElem_mem hlt)
   have HSN:=Lib.hid (yP Ob.smW t1 O.syms i hlt)
   have HPL:=Lib.hid (yI Ob.smW 40 t1 O.syms (fun x hx=>ql (HR.out.s x hx)) i)
   have hglw:g<wr.heap.size:=Nat.lt_of_lt_of_le hgl hbw.size
   generalize O.syms[i]=x at *
   have HML:Hid ((t1++((O.syms.take i).map Ob.smW).flatten).length<=1000):=by have:=HPL.out;have:=HLT.out;show _<=_;omega
   have HF:Hid (Ob.smW x=Ob.txt x.name++Ob.num x.len++Ob.num x.args):=rfl
   rw[HF.out]at HSN
   generalize t1++((O.syms.take i).map Ob.smW).flatten=m at *
   obtain⟨b1,b2,b3,b4,b5⟩:=HST.out.box (.cells #[.string (bs x.name),.int .i64 x.len,.int .i64 x.args] 44)
   have HBW:=Lib.hid hbw
   clear hbw HPL HF
   go_wp2_with fail
   generalize wr.alloc (.cells #[.string (bs x.name),.int .i64 x.len,.int .i64 x.args] 44)=wA at *
   have HAW:=Lib.hid (HW.out.trans b2)
   have hrA:wr.heap.size<wA.heap.size:=zi b3
   have HC0:=Lib.hid (xz b1 x.name (by have:=HML.out;skip;(try simp only [List.length_append]);omega))
   have HLn0:Hid ((Ob.txt x.name).length<=20):=by have:=yv (s:=x.name) (by omega);show _<=_;omega
   refine HC0.out.mono ?_
   rintro e w4 ⟨rfl,v4,h4a,h4b⟩
   have HQ4:Hid (Wr wb wA v3 w4 v4):=h4b
   have hk4:=HQ4.out.new b3 b4 b5
   have c4_1:w4.cell? ⟨wr.heap.size,1,none⟩=some (.int .i64 x.len):=za hk4
   have c4_2:w4.cell? ⟨wr.heap.size,2,none⟩=some (.int .i64 x.args):=za hk4
   have hz4:wr.heap.size<w4.heap.size:=zi hk4
   have HC1:=Lib.hid (number2 h4a x.len x.args hx.2.1 hx.2.2 (by have:=HML.out;have:=HLn0.out;(try simp only [List.length_append]);omega))
   have HLn1:Hid ((Ob.num x.len++Ob.num x.args).length<=20):=by have:=zY hx.2.1;have:=zY hx.2.2;show _<=_;rw[List.length_append];omega
   go_wp2_with fail
   refine HC1.out.mono ?_
   rintro e w5 ⟨rfl,v5,h5a,h5b⟩
   have HQ5:Hid (Wr wb wA v3 w5 v5):=(HQ4.out.trans h5b)
   have hk5:=HQ5.out.new b3 b4 b5
   have HSTn:Hid (Wst w5 wb v5 (t1++((O.syms.take (i+1)).map Ob.smW).flatten)):=by rw[<-HSN.out];have q:=h5a;simp only [List.append_assoc]at q ⊢;exact q
   have HWn:=Lib.hid (HAW.out.trans HQ5.out)
   clear h4a h4b h5a h5b b1 b2 b3 HST HW HAW HQ4 hk4 HQ5 hk5
   go_wp2_with fail
   go_roundg (O.syms.length - (i+1))
   case measure=>omega
   case rel=>exact⟨i+1,v5,by omega,rfl,by go_num,HSTn,HWn⟩
  ·have hlt':¬(i:Int)<(O.syms.length:Int):=by omega
   have hei:i=O.syms.length:=by omega
   have HF:Hid (Wst wr wb v3 (t1++(O.syms.map Ob.smW).flatten)):=by rw[hei,List.take_length]at HST;exact HST
   have HFL:Hid ((t1++(O.syms.map Ob.smW).flatten).length<=900):=by
    have:=yI Ob.smW 40 t1 O.syms (fun x hx=>ql (HR.out.s x hx)) O.syms.length
    rw[List.take_length]at this
    have:=HLT.out
    show _<=_;omega
   have hB1:=HB0.out.trans (HH.out.toBelow HW.out hw0)
   have hc1:wr.cell? ⟨b,o+2,none⟩=some (.slice ua O.uses.length uc):=(hB1.cell (p:=⟨b,o+2,none⟩) hbl).trans HV.out.c2
   have hb1':b<wr.heap.size:=zc hc1
   have HC1:=Lib.hid (xI HF.out (O.uses.length:Int) (by unfold Ob.I64;omega) (by have:=HFL.out;omega))
   have HT2:Hid (T=t1++(O.syms.map Ob.smW).flatten++Ob.num (O.uses.length:Int)++(O.uses.map Ob.usW).flatten++Ob.lst Ob.glW O.vars):=by rw[HT1.out,lst_eq Ob.usW];exact rfl
   have HLT2:Hid ((t1++(O.syms.map Ob.smW).flatten++Ob.num (O.uses.length:Int)).length<=910):=by have:=HFL.out;have h3:=zY (n:=(O.uses.length:Int)) (by unfold Ob.I64;omega);show _<=_;rw[List.length_append];omega
   clear HST hei HT1 HF HFL HLT
   generalize t1++(O.syms.map Ob.smW).flatten++Ob.num (O.uses.length:Int)=t2 at *
   go_wp2_with fail
   refine HC1.out.mono ?_
   rintro e w2 ⟨rfl,v2,h3,h4⟩
   have HW2:=Lib.hid (HW.out.trans h4)
   have hB2:=HB0.out.trans (HH.out.toBelow HW2.out hw0)
   have hc2:w2.cell? ⟨b,o+2,none⟩=some (.slice ua O.uses.length uc):=(hB2.cell (p:=⟨b,o+2,none⟩) hbl).trans HV.out.c2
   have hb2:b<w2.heap.size:=zc hc2
   have HS2:=Lib.hid h3
   have HLT:=HLT2
   clear h3 h4 HC1 HW hc1 hB1 hB2 HLT2
   go_wp2_with fail
   go_loopg [56] O.uses.length (fun k vi wr=>∃(i:Nat) (v':Value),i<=O.uses.length/\k=O.uses.length - i/\vi=.int .i64 (i:Int)/\Hid (Wst wr wb v' (t2++((O.uses.take i).map Ob.usW).flatten))/\Hid (Wr wb w v wr v'))
   case atStart=>exact⟨0,_,by omega,by omega,rfl,by simpa using HS2,HW2⟩
   case round =>
    obtain⟨i,v3,hid,hk,rfl,HST,HW⟩:=hrel
    clear HS2 HW2 hc2 hb2
    by_cases hlt:i<O.uses.length
    ·have hlt':(i:Int)<(O.uses.length:Int):=by omega
     have hbw:Below w0.heap.size w0 wr:=HB0.out.trans (HH.out.toBelow HW.out hw0)
     obtain⟨ucs,hU1,hU2⟩:=HV.out.u
     obtain⟨na',nc',q0,q1,q2,q3⟩:=RepN.get _ _ hU1 i hlt
     obtain⟨a0,c0',hsl0,_,hall⟩:=hU2
     cases hsl0
     obtain⟨g,go,rfl,hg0⟩:=hall _ _ q0
     have hgl:=zc hg0
     have e0:wr.cell? ⟨g,go+i * 3,none⟩=some (.string (bs O.uses[i].name)):=(hbw.cell (p:=⟨g,go+i * 3,none⟩) hgl).trans hg0
     have e1:wr.cell? ⟨g,go+i * 3+1,none⟩=some (.string (bs O.uses[i].need)):=by
      obtain⟨g',go',he,hg1⟩:=hall _ _ q1
      cases he
      exact(hbw.cell (p:=⟨g,go+i * 3+1,none⟩) hgl).trans hg1
     have e2:wr.cell? ⟨g,go+i * 3+2,none⟩=some (.slice na' O.uses[i].names.length nc'):=by
      obtain⟨g',go',he,hg1⟩:=hall _ _ q2
      cases he
      exact(hbw.cell (p:=⟨g,go+i * 3+2,none⟩) hgl).trans hg1
     have HSLN:=Lib.hid q3
     clear hall q0 q1 q2 q3 hg0 hU1
     have hx:=HR.out.u O.uses[i] (List.getElem_mem hlt)
     have HSN:=Lib.hid (yP Ob.usW t2 O.uses i hlt)
     have HPL:=Lib.hid (yI Ob.usW 6040 t2 O.uses (fun x hx=>qf (HR.out.u x hx)) i)
     have hglw:g<wr.heap.size:=Nat.lt_of_lt_of_le hgl hbw.size
     generalize O.uses[i]=x at *
     have HML:Hid ((t2++((O.uses.take i).map Ob.usW).flatten).length<=50000):=by have:=HPL.out;have:=HLT.out;show _<=_;omega
     have HF:Hid (Ob.usW x=Ob.txt x.name++Ob.txt x.need++Ob.lst Ob.txt x.names):=rfl
     rw[HF.out]at HSN
     generalize t2++((O.uses.take i).map Ob.usW).flatten=m at *
     obtain⟨b1,b2,b3,b4,b5⟩:=HST.out.box (.cells #[.string (bs x.name),.string (bs x.need),.slice na' x.names.length nc'] 128)
     have HBW:=Lib.hid hbw
     clear hbw HPL HF
     go_wp2_with fail
     generalize wr.alloc (.cells #[.string (bs x.name),.string (bs x.need),.slice na' x.names.length nc'] 128)=wA at *
     have HAW:=Lib.hid (HW.out.trans b2)
     have hrA:wr.heap.size<wA.heap.size:=zi b3
     have HC0:=Lib.hid (xz b1 x.name (by have:=HML.out;skip;(try simp only [List.length_append]);omega))
     have HLn0:Hid ((Ob.txt x.name).length<=20):=by have:=yv (s:=x.name) (by omega);show _<=_;omega
     refine HC0.out.mono ?_
     rintro e w4 ⟨rfl,v4,h4a,h4b⟩
     have HQ4:Hid (Wr wb wA v3 w4 v4):=h4b
     have hk4:=HQ4.out.new b3 b4 b5
     have c4_1:w4.cell? ⟨wr.heap.size,1,none⟩=some (.string (bs x.need)):=za hk4
     have hz4:wr.heap.size<w4.heap.size:=zi hk4
     have HC1:=Lib.hid (xz h4a x.need (by have:=HML.out;have:=HLn0.out;(try simp only [List.length_append]);omega))
     have HLn1:Hid ((Ob.txt x.need).length<=4010):=by have:=yv (s:=x.need) (by omega);show _<=_;omega
     go_wp2_with fail
     refine HC1.out.mono ?_
     rintro e w5 ⟨rfl,v5,h5a,h5b⟩
     have HQ5:Hid (Wr wb wA v3 w5 v5):=(HQ4.out.trans h5b)
     have hk5:=HQ5.out.new b3 b4 b5
     have c5_2:w5.cell? ⟨wr.heap.size,2,none⟩=some (.slice na' x.names.length nc'):=za hk5
     have hz5:wr.heap.size<w5.heap.size:=zi hk5
     have HC2:=Lib.hid (names_w h5a x.names HSLN.out (HBW.out.trans ((HST.out.toBelow b2 hw0).trans (b1.toBelow HQ5.out hw0))) hw0 hx.2.2.1 hx.2.2.2 (by have:=HML.out;have:=HLn0.out;have:=HLn1.out;(try simp only [List.length_append]);omega))
     have HLn2:Hid ((Ob.lst Ob.txt x.names).length<=2010):=by have:=jy Ob.txt 20 x.names (fun y hy=>by have:=hx.2.2.2 y hy;have:=yv (s:=y) (by omega);omega) (by omega);show _<=_;omega
     go_wp2_with fail
     refine HC2.out.mono ?_
     rintro e w6 ⟨rfl,v6,h6a,h6b⟩
     have HQ6:Hid (Wr wb wA v3 w6 v6):=(HQ5.out.trans h6b)
     have hk6:=HQ6.out.new b3 b4 b5
     have HSTn:Hid (Wst w6 wb v6 (t2++((O.uses.take (i+1)).map Ob.usW).flatten)):=by rw[<-HSN.out];have q:=h6a;simp only [List.append_assoc]at q ⊢;exact q
     have HWn:=Lib.hid (HAW.out.trans HQ6.out)
     clear h4a h4b h5a h5b h6a h6b b1 b2 b3 HST HW HAW HQ4 hk4 HQ5 hk5 HQ6 hk6
     go_wp2_with fail
     go_roundg (O.uses.length - (i+1))
     case measure=>omega
     case rel=>exact⟨i+1,v6,by omega,rfl,by go_num,HSTn,HWn⟩
    ·have hlt':¬(i:Int)<(O.uses.length:Int):=by omega
     have hei:i=O.uses.length:=by omega
     have HF:Hid (Wst wr wb v3 (t2++(O.uses.map Ob.usW).flatten)):=by rw[hei,List.take_length]at HST;exact HST
     have HFL:Hid ((t2++(O.uses.map Ob.usW).flatten).length<=40000):=by
      have:=yI Ob.usW 6040 t2 O.uses (fun x hx=>qf (HR.out.u x hx)) O.uses.length
      rw[List.take_length]at this
      have:=HLT.out
      show _<=_;omega
     have hB1:=HB0.out.trans (HH.out.toBelow HW.out hw0)
     have hc1:wr.cell? ⟨b,o+3,none⟩=some (.slice va O.vars.length vc):=(hB1.cell (p:=⟨b,o+3,none⟩) hbl).trans HV.out.c3
     have hb1':b<wr.heap.size:=zc hc1
     have HC1:=Lib.hid (xI HF.out (O.vars.length:Int) (by unfold Ob.I64;omega) (by have:=HFL.out;omega))
     have HT3:Hid (T=t2++(O.uses.map Ob.usW).flatten++Ob.num (O.vars.length:Int)++(O.vars.map Ob.glW).flatten):=by rw[HT2.out,lst_eq Ob.glW];exact rfl
     have HLT2:Hid ((t2++(O.uses.map Ob.usW).flatten++Ob.num (O.vars.length:Int)).length<=40010):=by have:=HFL.out;have h3:=zY (n:=(O.vars.length:Int)) (by unfold Ob.I64;omega);show _<=_;rw[List.length_append];omega
     clear HST hei HT2 HF HFL HLT
     generalize t2++(O.uses.map Ob.usW).flatten++Ob.num (O.vars.length:Int)=t3 at *
     go_wp2_with fail
     refine HC1.out.mono ?_
     rintro e w2 ⟨rfl,v2,h3,h4⟩
     have HW2:=Lib.hid (HW.out.trans h4)
     have hB2:=HB0.out.trans (HH.out.toBelow HW2.out hw0)
     have hc2:w2.cell? ⟨b,o+3,none⟩=some (.slice va O.vars.length vc):=(hB2.cell (p:=⟨b,o+3,none⟩) hbl).trans HV.out.c3
     have hb2:b<w2.heap.size:=zc hc2
     have HS2:=Lib.hid h3
     have HLT:=HLT2
     clear h3 h4 HC1 HW hc1 hB1 hB2 HLT2
     go_wp2_with fail
     go_loopg [85] O.vars.length (fun k vi wr=>∃(i:Nat) (v':Value),i<=O.vars.length/\k=O.vars.length - i/\vi=.int .i64 (i:Int)/\Hid (Wst wr wb v' (t3++((O.vars.take i).map Ob.glW).flatten))/\Hid (Wr wb w v wr v'))
     case atStart=>exact⟨0,_,by omega,by omega,rfl,by simpa using HS2,HW2⟩
     case round =>
      obtain⟨i,v3,hid,hk,rfl,HST,HW⟩:=hrel
      clear HS2 HW2 hc2 hb2
      by_cases hlt:i<O.vars.length
      ·have hlt':(i:Int)<(O.vars.length:Int):=by omega
       have hbw:Below w0.heap.size w0 wr:=HB0.out.trans (HH.out.toBelow HW.out hw0)
       obtain⟨g,go,rfl,hgl,hcell⟩:=HV.out.v.at' glC_len (by omega) i hlt
       have e0:wr.cell? ⟨g,go+i * 4,none⟩=some (.string (bs O.vars[i].name)):=(hbw.cell (p:=⟨g,go+i * 4,none⟩) hgl).trans (hcell 0 _ rfl)
       have e1:wr.cell? ⟨g,go+i * 4+1,none⟩=some (.int .i64 O.vars[i].at'):=(hbw.cell (p:=⟨g,go+i * 4+1,none⟩) hgl).trans (hcell 1 _ rfl)
       have e2:wr.cell? ⟨g,go+i * 4+2,none⟩=some (.int .i64 O.vars[i].len):=(hbw.cell (p:=⟨g,go+i * 4+2,none⟩) hgl).trans (hcell 2 _ rfl)
       have e3:wr.cell? ⟨g,go+i * 4+3,none⟩=some (.bool O.vars[i].seen):=(hbw.cell (p:=⟨g,go+i * 4+3,none⟩) hgl).trans (hcell 3 _ rfl)
       clear hcell
       have hx:=(And.intro (HR.out.v O.vars[i] (List.getElem_mem hlt)).1 (HR.out.v O.vars[i] (List.getElem_mem hlt)).2.2)
       have HSN:=Lib.hid (yP Ob.glW t3 O.vars i hlt)
       have HPL:=Lib.hid (yI Ob.glW 31 t3 O.vars (fun x hx=>glW_len (HR.out.v x hx)) i)
       have hglw:g<wr.heap.size:=Nat.lt_of_lt_of_le hgl hbw.size
       generalize O.vars[i]=x at *
       have HML:Hid ((t3++((O.vars.take i).map Ob.glW).flatten).length<=60000):=by have:=HPL.out;have:=HLT.out;show _<=_;omega
       have HF:Hid (Ob.glW x=Ob.txt x.name++Ob.num x.len++[if x.seen then 1 else 0]):=rfl
       rw[HF.out]at HSN
       generalize t3++((O.vars.take i).map Ob.glW).flatten=m at *
       obtain⟨b1,b2,b3,b4,b5⟩:=HST.out.box (.cells #[.string (bs x.name),.int .i64 x.at',.int .i64 x.len,.bool x.seen] 118)
       have HBW:=Lib.hid hbw
       clear hbw HPL HF
       go_wp2_with fail
       generalize wr.alloc (.cells #[.string (bs x.name),.int .i64 x.at',.int .i64 x.len,.bool x.seen] 118)=wA at *
       have HAW:=Lib.hid (HW.out.trans b2)
       have hrA:wr.heap.size<wA.heap.size:=zi b3
       have HC0:=Lib.hid (xz b1 x.name (by have:=HML.out;skip;(try simp only [List.length_append]);omega))
       have HLn0:Hid ((Ob.txt x.name).length<=20):=by have:=yv (s:=x.name) (by omega);show _<=_;omega
       refine HC0.out.mono ?_
       rintro e w4 ⟨rfl,v4,h4a,h4b⟩
       have HQ4:Hid (Wr wb wA v3 w4 v4):=h4b
       have hk4:=HQ4.out.new b3 b4 b5
       have c4_2:w4.cell? ⟨wr.heap.size,2,none⟩=some (.int .i64 x.len):=za hk4
       have hz4:wr.heap.size<w4.heap.size:=zi hk4
       have HC1:=Lib.hid (number1 h4a x.len hx.2 (by have:=HML.out;have:=HLn0.out;(try simp only [List.length_append]);omega))
       have HLn1:Hid ((Ob.num x.len).length<=10):=by exact zY hx.2
       go_wp2_with fail
       refine HC1.out.mono ?_
       rintro e w5 ⟨rfl,v5,h5a,h5b⟩
       have HQ5:Hid (Wr wb wA v3 w5 v5):=(HQ4.out.trans h5b)
       have hk5:=HQ5.out.new b3 b4 b5
       have c5_3:w5.cell? ⟨wr.heap.size,3,none⟩=some (.bool x.seen):=za hk5
       have hz5:wr.heap.size<w5.heap.size:=zi hk5
       have HC2:=Lib.hid (flag_w h5a x.seen (by have:=HML.out;have:=HLn0.out;have:=HLn1.out;(try simp only [List.length_append]);omega))
       have HLn2:Hid (([if x.seen then 1 else 0]).length<=1):=by show _<=_;simp
       go_wp2_with fail
       refine HC2.out.mono ?_
       rintro e w6 ⟨rfl,v6,h6a,h6b⟩
       have HQ6:Hid (Wr wb wA v3 w6 v6):=(HQ5.out.trans h6b)
       have hk6:=HQ6.out.new b3 b4 b5
       have HSTn:Hid (Wst w6 wb v6 (t3++((O.vars.take (i+1)).map Ob.glW).flatten)):=by rw[<-HSN.out];have q:=h6a;simp only [List.append_assoc]at q ⊢;exact q
       have HWn:=Lib.hid (HAW.out.trans HQ6.out)
       clear h4a h4b h5a h5b h6a h6b b1 b2 b3 HST HW HAW HQ4 hk4 HQ5 hk5 HQ6 hk6
       go_wp2_with fail
       go_roundg (O.vars.length - (i+1))
       case measure=>omega
       case rel=>exact⟨i+1,v6,by omega,rfl,by go_num,HSTn,HWn⟩
      ·have hlt':¬(i:Int)<(O.vars.length:Int):=by omega
       have hei:i=O.vars.length:=by omega
       have HF:Hid (Wst wr wb v3 T):=by rw[hei,List.take_length]at HST;rw[HT3.out];exact HST
       clear HST hei
       go_wp2_with fail
       exact bodyPost_end (results_none rfl _ _ _) rfl ⟨rfl,v3,HF.out,HW.out⟩
theorem numberAt {f:FuncId}{p:Value}{w w':World}{n k:Nat}{Q:Ending->World->Prop}(hs:w.heap.size=n) (h:Calls Tryz.prog f #[p,.slice (some ⟨w.heap.size,0,none⟩) k k] w' Q):Calls Tryz.prog f #[p,.slice (some ⟨n,0,none⟩) k k] w' Q:=by rw[<-hs];exact h
theorem xA (w:World) (ob:Obj):(w.alloc ob).heap.size=w.heap.size+1:=by simp
theorem qO {x:Ob.En}(h:Ob.I64 x.at'/\Ob.I64 x.args/\Ob.I64 x.locals):(Ob.enW x).length<=30:=by
 have h1:=zY h.1
 have h2:=zY h.2.1
 have h3:=zY h.2.2
 unfold Ob.enW;simp only [List.length_append];omega
theorem inW_len {x:Ob.In}(h:Ob.I64 x.op/\Ob.I64 x.a/\Ob.I64 x.b):(Ob.inW x).length<=30:=by
 have h1:=zY h.1
 have h2:=zY h.2.1
 have h3:=zY h.2.2
 unfold Ob.inW;simp only [List.length_append];omega
theorem code_w {w0 w:World}{wb b o:Nat}{v:Value}{O:Ob.O}{l:Bs}(h:Wst w wb v l) (hO:OA w0 b o O) (hR:RB O) (hb0:Below w0.heap.size w0 w) (hw0:w0.heap.size<=wb) (hl:l.length<=100000) :
  Calls Tryz.prog 46 #[.pointer (some ⟨wb,0,none⟩),.pointer (some ⟨b,o,none⟩)] w (Wrote wb w v (l++Ob.codeW O)):=by
 obtain⟨sa,ua,va,pa,na,ca,sc,uc,vc,pc,nc,cc,hV⟩:=hO
 have HV:=Lib.hid hV
 have HR:=Lib.hid hR
 have HB0:=Lib.hid hb0
 have HH:=Lib.hid h
 have hbl:=zc hV.c0
 have hb1:b<w.heap.size:=Nat.lt_of_lt_of_le hbl hb0.size
 have hnl:=hR.nl
 have hpl:=hR.pl
 have hcl:=hR.cl
 have HT:Hid (l++Ob.codeW O=l++Ob.lst Ob.txt O.names++(O.procs.map Ob.enW).flatten++Ob.lst Ob.inW O.code):=by show _=_;simp[Ob.codeW]
 generalize l++Ob.codeW O=T at *
 have hc0:w.cell? ⟨b,o+5,none⟩=some (.slice na O.names.length nc):=(hb0.cell (p:=⟨b,o+5,none⟩) hbl).trans hV.c5
 have HC:=Lib.hid (names_w h O.names hV.n hb0 hw0 (by omega) hR.n (by omega))
 have HL0:Hid ((l++Ob.lst Ob.txt O.names).length<=100500):=by
  have:=jy Ob.txt 20 O.names (fun y hy=>by have:=HR.out.n y hy;have:=yv (s:=y) (by omega);omega) (by omega)
  show _<=_
  rw[List.length_append];omega
 generalize l++Ob.lst Ob.txt O.names=t0 at *
 clear hV hR hb0 h
 go_enter Tryz.func46,Tryz.ntmps46
 go_wp2_with fail
 refine HC.out.mono ?_
 rintro e w2 ⟨rfl,v1,h1,h2⟩
 have HW2:=Lib.hid h2
 have hB2:=HB0.out.trans (HH.out.toBelow h2 hw0)
 have hc2:w2.cell? ⟨b,o+4,none⟩=some (.slice pa O.procs.length pc):=(hB2.cell (p:=⟨b,o+4,none⟩) hbl).trans HV.out.c4
 have hb2:b<w2.heap.size:=zc hc2
 have HS2:=Lib.hid h1
 have HLT:=HL0
 clear h1 h2 HC hc0 HL0 hB2
 go_wp2_with fail
 go_loopg [19] O.procs.length (fun k vi wr=>∃(i:Nat) (v':Value),i<=O.procs.length/\k=O.procs.length - i/\vi=.int .i64 (i:Int)/\Hid (Wst wr wb v' (t0++((O.procs.take i).map Ob.enW).flatten))/\Hid (Wr wb w v wr v'))
 case atStart=>exact⟨0,_,by omega,by omega,rfl,by simpa using HS2,HW2⟩
 case round =>
  obtain⟨i,v3,hid,hk,rfl,HST,HW⟩:=hrel
  clear HS2 HW2 hc2 hb2
  by_cases hlt:i<O.procs.length
  ·have hlt':(i:Int)<(O.procs.length:Int):=by omega
   have hbw:Below w0.heap.size w0 wr:=HB0.out.trans (HH.out.toBelow HW.out hw0)
   obtain⟨g,go,rfl,hgl,hcell⟩:=HV.out.p.at' enC_len (by omega) i hlt
   have e0:wr.cell? ⟨g,go+i * 3,none⟩=some (.int .i64 O.procs[i].at'):=(hbw.cell (p:=⟨g,go+i * 3,none⟩) hgl).trans (hcell 0 _ rfl)
   have e1:wr.cell? ⟨g,go+i * 3+1,none⟩=some (.int .i64 O.procs[i].args):=(hbw.cell (p:=⟨g,go+i * 3+1,none⟩) hgl).trans (hcell 1 _ rfl)
   have e2:wr.cell? ⟨g,go+i * 3+2,none⟩=some (.int .i64 O.procs[i].locals):=(hbw.cell (p:=⟨g,go+i * 3+2,none⟩) hgl).trans (hcell 2 _ rfl)
   clear hcell
   have hx:=HR.out.p O.procs[i] (List.getElem_mem hlt)
   have HSN:=Lib.hid (yP Ob.enW t0 O.procs i hlt)
   have HPL:=Lib.hid (yI Ob.enW 30 t0 O.procs (fun x hx=>qO (HR.out.p x hx)) i)
   have hglw:g<wr.heap.size:=Nat.lt_of_lt_of_le hgl hbw.size
   generalize O.procs[i]=x at *
   have HML:Hid ((t0++((O.procs.take i).map Ob.enW).flatten).length<=300000):=by have:=HPL.out;have:=HLT.out;show _<=_;omega
   have HF:Hid (Ob.enW x=Ob.num x.at'++Ob.num x.args++Ob.num x.locals):=rfl
   rw[HF.out]at HSN
   generalize t0++((O.procs.take i).map Ob.enW).flatten=m at *
   have b6:=xA wr (.cells #[.int .i64 x.at',.int .i64 x.args,.int .i64 x.locals] 156)
   obtain⟨b1,b2,b3,b4,b5⟩:=HST.out.box (.cells #[.int .i64 x.at',.int .i64 x.args,.int .i64 x.locals] 156)
   have HBW:=Lib.hid hbw
   clear hbw HPL HF
   go_wp2_with fail
   generalize wr.alloc (.cells #[.int .i64 x.at',.int .i64 x.args,.int .i64 x.locals] 156)=wA at *
   have HAW:=Lib.hid (HW.out.trans b2)
   have hrA:wr.heap.size<wA.heap.size:=zi b3
   have HC0:=Lib.hid (numberAt b6 (number3 b1 x.at' x.args x.locals hx.1 hx.2.1 hx.2.2 (by have:=HML.out;skip;(try simp only [List.length_append]);omega)))
   have HLn0:Hid ((Ob.num x.at'++Ob.num x.args++Ob.num x.locals).length<=30):=by exact qO hx
   refine HC0.out.mono ?_
   rintro e w4 ⟨rfl,v4,h4a,h4b⟩
   have HQ4:Hid (Wr wb wA v3 w4 v4):=h4b
   have hk4:=HQ4.out.new b3 b4 b5
   have HSTn:Hid (Wst w4 wb v4 (t0++((O.procs.take (i+1)).map Ob.enW).flatten)):=by rw[<-HSN.out];have q:=h4a;simp only [List.append_assoc]at q ⊢;exact q
   have HWn:=Lib.hid (HAW.out.trans HQ4.out)
   clear h4a h4b b1 b2 b3 HST HW HAW HQ4 hk4
   go_wp2_with fail
   go_roundg (O.procs.length - (i+1))
   case measure=>omega
   case rel=>exact⟨i+1,v4,by omega,rfl,by go_num,HSTn,HWn⟩
  ·have hlt':¬(i:Int)<(O.procs.length:Int):=by omega
   have hei:i=O.procs.length:=by omega
   have HF:Hid (Wst wr wb v3 (t0++(O.procs.map Ob.enW).flatten)):=by rw[hei,List.take_length]at HST;exact HST
   have HFL:Hid ((t0++(O.procs.map Ob.enW).flatten).length<=101000):=by
    have:=yI Ob.enW 30 t0 O.procs (fun x hx=>qO (HR.out.p x hx)) O.procs.length
    rw[List.take_length]at this
    have:=HLT.out
    show _<=_;omega
   have hB1:=HB0.out.trans (HH.out.toBelow HW.out hw0)
   have hc1:wr.cell? ⟨b,o+6,none⟩=some (.slice ca O.code.length cc):=(hB1.cell (p:=⟨b,o+6,none⟩) hbl).trans HV.out.c6
   have hb1':b<wr.heap.size:=zc hc1
   have HC1:=Lib.hid (xI HF.out (O.code.length:Int) (by unfold Ob.I64;omega) (by have:=HFL.out;omega))
   have HT1:Hid (T=t0++(O.procs.map Ob.enW).flatten++Ob.num (O.code.length:Int)++(O.code.map Ob.inW).flatten):=by rw[HT.out,lst_eq Ob.inW];exact rfl
   have HLT2:Hid ((t0++(O.procs.map Ob.enW).flatten++Ob.num (O.code.length:Int)).length<=101010):=by have:=HFL.out;have h3:=zY (n:=(O.code.length:Int)) (by unfold Ob.I64;omega);show _<=_;rw[List.length_append];omega
   clear HST hei HT HF HFL HLT
   generalize t0++(O.procs.map Ob.enW).flatten++Ob.num (O.code.length:Int)=t1 at *
   go_wp2_with fail
   refine HC1.out.mono ?_
   rintro e w2 ⟨rfl,v2,h3,h4⟩
   have HW2:=Lib.hid (HW.out.trans h4)
   have hB2:=HB0.out.trans (HH.out.toBelow HW2.out hw0)
   have hc2:w2.cell? ⟨b,o+6,none⟩=some (.slice ca O.code.length cc):=(hB2.cell (p:=⟨b,o+6,none⟩) hbl).trans HV.out.c6
   have hb2:b<w2.heap.size:=zc hc2
   have HS2:=Lib.hid h3
   have HLT:=HLT2
   clear h3 h4 HC1 HW hc1 hB1 hB2 HLT2
   go_wp2_with fail
   go_loopg [45] O.code.length (fun k vi wr=>∃(i:Nat) (v':Value),i<=O.code.length/\k=O.code.length - i/\vi=.int .i64 (i:Int)/\Hid (Wst wr wb v' (t1++((O.code.take i).map Ob.inW).flatten))/\Hid (Wr wb w v wr v'))
   case atStart=>exact⟨0,_,by omega,by omega,rfl,by simpa using HS2,HW2⟩
   case round =>
    obtain⟨i,v3,hid,hk,rfl,HST,HW⟩:=hrel
    clear HS2 HW2 hc2 hb2
    by_cases hlt:i<O.code.length
    ·have hlt':(i:Int)<(O.code.length:Int):=by omega
     have hbw:Below w0.heap.size w0 wr:=HB0.out.trans (HH.out.toBelow HW.out hw0)
     obtain⟨g,go,rfl,hgl,hcell⟩:=HV.out.c.at' vt (by omega) i hlt
     have e0:wr.cell? ⟨g,go+i * 3,none⟩=some (.int .i64 O.code[i].op):=(hbw.cell (p:=⟨g,go+i * 3,none⟩) hgl).trans (hcell 0 _ rfl)
     have e1:wr.cell? ⟨g,go+i * 3+1,none⟩=some (.int .i64 O.code[i].a):=(hbw.cell (p:=⟨g,go+i * 3+1,none⟩) hgl).trans (hcell 1 _ rfl)
     have e2:wr.cell? ⟨g,go+i * 3+2,none⟩=some (.int .i64 O.code[i].b):=(hbw.cell (p:=⟨g,go+i * 3+2,none⟩) hgl).trans (hcell 2 _ rfl)
     clear hcell
     have hx:=HR.out.c O.code[i] (List.getElem_mem hlt)
     have HSN:=Lib.hid (yP Ob.inW t1 O.code i hlt)
     have HPL:=Lib.hid (yI Ob.inW 30 t1 O.code (fun x hx=>inW_len (HR.out.c x hx)) i)
     have hglw:g<wr.heap.size:=Nat.lt_of_lt_of_le hgl hbw.size
     generalize O.code[i]=x at *
     have HML:Hid ((t1++((O.code.take i).map Ob.inW).flatten).length<=700000):=by have:=HPL.out;have:=HLT.out;show _<=_;omega
     have HF:Hid (Ob.inW x=Ob.num x.op++Ob.num x.a++Ob.num x.b):=rfl
     rw[HF.out]at HSN
     generalize t1++((O.code.take i).map Ob.inW).flatten=m at *
     have b6:=xA wr (.cells #[.int .i64 x.op,.int .i64 x.a,.int .i64 x.b] 54)
     obtain⟨b1,b2,b3,b4,b5⟩:=HST.out.box (.cells #[.int .i64 x.op,.int .i64 x.a,.int .i64 x.b] 54)
     have HBW:=Lib.hid hbw
     clear hbw HPL HF
     go_wp2_with fail
     generalize wr.alloc (.cells #[.int .i64 x.op,.int .i64 x.a,.int .i64 x.b] 54)=wA at *
     have HAW:=Lib.hid (HW.out.trans b2)
     have hrA:wr.heap.size<wA.heap.size:=zi b3
     have HC0:=Lib.hid (numberAt b6 (number3 b1 x.op x.a x.b hx.1 hx.2.1 hx.2.2 (by have:=HML.out;skip;(try simp only [List.length_append]);omega)))
     have HLn0:Hid ((Ob.num x.op++Ob.num x.a++Ob.num x.b).length<=30):=by exact inW_len hx
     refine HC0.out.mono ?_
     rintro e w4 ⟨rfl,v4,h4a,h4b⟩
     have HQ4:Hid (Wr wb wA v3 w4 v4):=h4b
     have hk4:=HQ4.out.new b3 b4 b5
     have HSTn:Hid (Wst w4 wb v4 (t1++((O.code.take (i+1)).map Ob.inW).flatten)):=by rw[<-HSN.out];have q:=h4a;simp only [List.append_assoc]at q ⊢;exact q
     have HWn:=Lib.hid (HAW.out.trans HQ4.out)
     clear h4a h4b b1 b2 b3 HST HW HAW HQ4 hk4
     go_wp2_with fail
     go_roundg (O.code.length - (i+1))
     case measure=>omega
     case rel=>exact⟨i+1,v4,by omega,rfl,by go_num,HSTn,HWn⟩
    ·have hlt':¬(i:Int)<(O.code.length:Int):=by omega
     have hei:i=O.code.length:=by omega
     have HF:Hid (Wst wr wb v3 T):=by rw[hei,List.take_length]at HST;rw[HT1.out];exact HST
     clear HST hei
     go_wp2_with fail
     exact bodyPost_end (results_none rfl _ _ _) rfl ⟨rfl,v3,HF.out,HW.out⟩
end Go.Proofs.YtmocelfkmdpogaaGreatDoor.Jo
