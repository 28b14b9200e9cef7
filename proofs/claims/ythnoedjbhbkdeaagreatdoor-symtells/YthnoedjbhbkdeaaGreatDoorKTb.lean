import Derived.Test.YthnoedjbhbkdeaaGreatDoorKTa
import Derived.Test.YthnoedjbhbkdeaaGreatDoorKXa
import Derived.Test.YthnoedjbhbkdeaaGreatDoorKMb
import Derived.Test.YthnoedjbhbkdeaaGreatDoorKPc
import Derived.Deep.RegionHeld3
import Derived.BigQuiet
set_option maxRecDepth 100000
set_option maxHeartbeats 4000000
namespace Go.Proofs.YthnoedjbhbkdeaaGreatDoor
open Go.RowKit Go.Sort
open Tp (X)
def allX:List X->List X
 | []=>[]
 | ⟨code,pos,n,md,nm,op,le,ri,ar⟩ :: xs=>⟨code,pos,n,md,nm,op,le,ri,ar⟩ :: (allX le++allX ri++allX ar++allX xs)
theorem kQ (x:X) (l:List X):allX (x :: l)=x :: (allX x.left++allX x.right++allX x.args++allX l):=by
 obtain⟨⟩:=x
 rw[allX]
theorem kP:allX []=[]:=by rw[allX]
theorem RepL.extD {b:Nat}{w w':World}{D:Nat->Prop}{l:List X}{vs:List Value}(h:RepL w D l vs) (k:Ext b w w') (hD:∀ i,D i->i≠b):RepL w' D l vs :=
 RepL.mono (fun i hi hl=>⟨k.block i hl (hD i hi),hi⟩) (SizeOf.sizeOf l) l vs zn h
theorem fold_cnt {σ:Type}{stp:X->σ->σ}{cnt:σ->Nat}(h:∀ y s,cnt (stp y s)=cnt s+1):∀(l:List X) (s:σ),cnt (l.foldl (fun s y=>stp y s) s)=cnt s+l.length:=by
 intro l
 induction l with
 | nil=>intro s;rfl
 | cons y l ih=>intro s;rw[List.foldl_cons,ih,h,List.length_cons];omega
structure Vis {σ:Type}(I:σ->World->Prop) (stp:X->σ->σ) (cnt:σ->Nat) (b fid:Nat) (p1 p2:Nat):Prop where
 ct:∀ y s,cnt (stp y s)=cnt s+1
 on:∀ {s W W'},I s W->Below W.heap.size W W'->I s W'
 does:∀ {s W D x} {y:X},cnt s<100000->I s W->RepL W D [y] [.pointer (some ⟨x,0,none⟩)]->Tp.WX [y]->Calls Tryz.prog fid #[.pointer (some ⟨x,0,none⟩),.pointer (some ⟨p1,0,none⟩),.pointer (some ⟨p2,0,none⟩)] W fun e w'=>e=.returned (.tuple #[])/\I (stp y s) w'/\Ext b W w'
structure Bx (W:World) (fid t1 t2 b p1 p2:Nat):Prop where
 c1:W.cell? ⟨t1,0,none⟩=some (.func (.func fid) #[] #[.pointer (some ⟨p1,0,none⟩),.pointer (some ⟨p2,0,none⟩)])
 c2:W.cell? ⟨t2,0,none⟩=some (.func (.func 125) #[] #[.pointer (some ⟨t1,0,none⟩),.pointer (some ⟨t2,0,none⟩)])
 n1:t1≠b
 n2:t2≠b
theorem yv {b t o:Nat}{w w':World}{v:Value}(h:w.cell? ⟨t,o,none⟩=some v) (k:Ext b w w') (hn:t≠b):w'.cell? ⟨t,o,none⟩=some v:=by
 rw[<-h]
 unfold World.cell?
 rw[k.block t (zg h) hn]
theorem Bx.ext {W W':World}{fid t1 t2 b p1 p2:Nat}(h:Bx W fid t1 t2 b p1 p2) (k:Ext b W W'):Bx W' fid t1 t2 b p1 p2:=⟨yv h.c1 k h.n1,yv h.c2 k h.n2,h.n1,h.n2⟩
theorem Bx.on {W W':World}{fid t1 t2 b p1 p2:Nat}(h:Bx W fid t1 t2 b p1 p2) (k:Below W.heap.size W W'):Bx W' fid t1 t2 b p1 p2:=⟨(k.cell (p:=⟨t1,0,none⟩) (zg h.c1)).trans h.c1,(k.cell (p:=⟨t2,0,none⟩) (zg h.c2)).trans h.c2,h.n1,h.n2⟩
theorem Ext.of_below {b:Nat}{w w':World}(k:Below w.heap.size w w'):Ext b w w':=⟨k.os,k.tape,k.output,k.size,fun i hi _=>k.block i hi⟩
theorem expr_nil (W:World) (t1 t2:Nat):Calls Tryz.prog 125 #[.pointer none,.pointer (some ⟨t1,0,none⟩),.pointer (some ⟨t2,0,none⟩)] W fun e w'=>e=.returned (.tuple #[])/\w'=W:=by
 go_enter Tryz.func125,Tryz.ntmps125
 go_wp2_with fail
 (try simp only [Exit.inBlock,Exit.then])
 refine bodyPost_ret (results_none rfl _ _ _) rfl ?_
 exact⟨rfl,rfl⟩
def ExC {σ:Type}(I:σ->World->Prop) (stp:X->σ->σ) (cnt:σ->Nat) (b fid p1 p2 t1 t2:Nat) (N:Nat):Prop:=∀(y:X),SizeOf.sizeOf y<=N->Tp.WX [y]->∀(W:World) (D:Nat->Prop) (x:Nat) (s:σ),cnt s+(allX [y]).length<=100000->I s W->RepL W D [y] [.pointer (some ⟨x,0,none⟩)]->(∀ i,D i->i≠b)->Bx W fid t1 t2 b p1 p2 ->
 Calls Tryz.prog 125 #[.pointer (some ⟨x,0,none⟩),.pointer (some ⟨t1,0,none⟩),.pointer (some ⟨t2,0,none⟩)] W fun e w'=>e=.returned (.tuple #[])/\I ((allX [y]).foldl (fun s y=>stp y s) s) w'/\Ext b W w'
theorem ex_opt {σ:Type}{I:σ->World->Prop}{stp:X->σ->σ}{cnt:σ->Nat}{b fid p1 p2 t1 t2 N:Nat}(hE:ExC I stp cnt b fid p1 p2 t1 t2 N) {l:List X}(hl:l=[]\/∃ z,l=[z]/\SizeOf.sizeOf z<=N/\Tp.WX [z]) {W:World}{D:Nat->Prop}{ls:List Value}{s:σ}(hc:cnt s+(allX l).length<=100000) (hI:I s W) (hr:RepL W D l ls) (hD:∀ i,D i->i≠b) (hB:Bx W fid t1 t2 b p1 p2) :
  Calls Tryz.prog 125 #[ls.headD (.pointer none),.pointer (some ⟨t1,0,none⟩),.pointer (some ⟨t2,0,none⟩)] W fun e w'=>e=.returned (.tuple #[])/\I ((allX l).foldl (fun s y=>stp y s) s) w'/\Ext b W w':=by
 rcases hl with rfl|⟨z,rfl,hz,hw⟩
 ·have:ls=[]:=List.eq_nil_of_length_eq_zero (by have:=RepL.len _ _ hr;simpa using this)
  subst this
  refine(expr_nil W t1 t2).mono ?_
  rintro e w' ⟨rfl,rfl⟩
  exact⟨rfl,by rw[kP];exact hI,Ext.refl _ _⟩
 ·obtain⟨c,rfl⟩:=hr.single
  exact hE z hz hw W D c s hc hI hr hD hB
theorem allX_app (l m:List X):allX (l++m)=allX l++allX m:=by
 induction l with
 | nil=>rw[kP];rfl
 | cons x l ih=>rw[List.cons_append,kQ,kQ,ih];simp
theorem vM {l:List X}{i:Nat}(h:i<l.length):allX (l.take (i+1))=allX (l.take i)++allX [l[i]]:=by rw[List.take_succ_eq_append_getElem h,allX_app]
theorem allX_part {l:List X}{i:Nat}(h:i<l.length):(allX (l.take i)).length+(allX [l[i]]).length<=(allX l).length:=by
 have e:l=l.take (i+1)++l.drop (i+1):=(List.take_append_drop _ _).symm
 have h2:(allX l).length=(allX (l.take (i+1))).length+(allX (l.drop (i+1))).length:=by
  conv=>lhs;rw[e,allX_app,List.length_append]
 rw[h2,vM h,List.length_append]
 omega
theorem expr_step {σ:Type}{I:σ->World->Prop}{stp:X->σ->σ}{cnt:σ->Nat}{b p1 p2 t1 t2 N:Nat}(hV:Vis I stp cnt b 66 p1 p2) (hE:ExC I stp cnt b 66 p1 p2 t1 t2 N) {y:X}(hle:y.left=[]\/∃ z,y.left=[z]/\SizeOf.sizeOf z<=N/\Tp.WX [z]) (hri:y.right=[]\/∃ z,y.right=[z]/\SizeOf.sizeOf z<=N/\Tp.WX [z]) (har:∀ i (h:i<y.args.length),SizeOf.sizeOf y.args[i]<=N/\Tp.WX [y.args[i]]) (hw:Tp.WX [y])
  {W:World} {D:Nat->Prop} {x:Nat} {s:σ} (hc:cnt s+(allX [y]).length<=100000) (hI:I s W) (hr:RepL W D [y] [.pointer (some ⟨x,0,none⟩)]) (hD:∀ i,D i->i≠b) (hB:Bx W 66 t1 t2 b p1 p2) :
  Calls Tryz.prog 125 #[.pointer (some ⟨x,0,none⟩),.pointer (some ⟨t1,0,none⟩),.pointer (some ⟨t2,0,none⟩)] W fun e w'=>e=.returned (.tuple #[])/\I ((allX [y]).foldl (fun s y=>stp y s) s) w'/\Ext b W w':=by
 obtain⟨code,pos,n,md,nm,op,le,ri,ar⟩:=y
 obtain⟨av,ls,rs,gs,hbW,hleW,hriW,harW,havW⟩:=hr.unit
 simp only at hle hri har
 have hxD:x≠b:=by
  have hr':=hr
  rw[RepL]at hr'
  obtain⟨b',_,_,_,_,_,h1,h2,_⟩:=hr'
  cases h1
  exact hD _ h2
 have HXB:Hid (x≠b):=hxD
 have hcl:(allX [(⟨code,pos,n,md,nm,op,le,ri,ar⟩:X)]).length=1+(allX le).length+(allX ri).length+(allX ar).length:=by rw[kQ,kP];simp only [List.length_cons,List.length_append,List.length_nil];omega
 rw[hcl]at hc
 have HF:=zh (hV.does (by omega) hI hr hw)
 have HCT:Hid (∀(l:List X) (s:σ),cnt (l.foldl (fun s y=>stp y s) s)=cnt s+l.length):=fold_cnt hV.ct
 have HV:=zh hV
 have HE:=zh hE
 have HD:=zh hD
 have HB:=zh hB
 have HLE:=zh hle
 have HRI:=zh hri
 have HAR:=zh har
 have HLW:=zh hleW
 have HRW:=zh hriW
 have HAW:=zh harW
 have HVW:=zh havW
 have HBW:=zh hbW
 obtain⟨la,hla⟩:=hleW.headP
 obtain⟨ra,hra⟩:=hriW.headP
 have HLA:=zh hla
 have HRA:=zh hra
 have b1:=hB.c1
 have hl1:=zg b1
 obtain⟨s1,hs1⟩:∃ s1,s1=stp ⟨code,pos,n,md,nm,op,le,ri,ar⟩ s:=⟨_,rfl⟩
 rw[<-hs1]at HF
 have HS1:=zh hs1
 have HCS:Hid (cnt s1+(allX le).length+(allX ri).length+(allX ar).length<=100000):=by show _<=_;rw[hs1,hV.ct];omega
 clear hc hcl hI hr hV hE hD hB hle hri har hw hleW hriW harW havW hbW hla hra hs1 hxD
 go_enter Tryz.func125,Tryz.ntmps125
 go_wp2_with fail
 refine HF.out.mono ?_
 rintro e w1 ⟨rfl,hI1,hx1⟩
 have hBw1:=HB.out.ext hx1
 have hbw1:w1.heap[x]?=some (.cells #[.int .i64 (code:Int),.int .i64 (pos:Int),.int .i64 (n:Int),.string (bs md),.string (bs nm),.string (bs op),.pointer la,.pointer ra,av] 111 (0,0)):=by
  have:=(hx1.block x (zc HBW.out) HXB.out).trans HBW.out
  rw[HLA.out,HRA.out]at this
  exact this
 have hl1w:=HLW.out.extD hx1 HD.out
 have hr1w:=HRW.out.extD hx1 HD.out
 have ha1w:=HAW.out.extD hx1 HD.out
 have HHL:Hid (RepL w1 D le ls):=hl1w
 have HHR:Hid (RepL w1 D ri rs):=hr1w
 have HHA:Hid (RepL w1 D ar gs):=ha1w
 have HI1:=zh hI1
 have HX1:=zh hx1
 clear hl1w hr1w ha1w hI1 HF
 have HC2:Hid (w1.drew.cell? ⟨t2,0,none⟩=some (.func (.func 125) #[] #[.pointer (some ⟨t1,0,none⟩),.pointer (some ⟨t2,0,none⟩)])/\w1.drew.cell? ⟨x,6,none⟩=some (.pointer la)):=⟨hBw1.c2,za hbw1⟩
 have HL2:Hid (Calls Tryz.prog 125 #[.pointer la,.pointer (some ⟨t1,0,none⟩),.pointer (some ⟨t2,0,none⟩)] w1.drew fun e w'=>e=.returned (.tuple #[])/\I ((allX le).foldl (fun s y=>stp y s) s1) w'/\Ext b w1 w'):=by
  have:=ex_opt (W:=w1.drew) HE.out HLE.out (by have:=HCS.out;omega) (HV.out.on HI1.out ((Below.refl _ _).drew)) (HHL.out.step' ((Below.refl _ _).drew)) HD.out (hBw1.on ((Below.refl _ _).drew))
  rw[HLA.out]at this
  exact this.mono fun e w' q=>⟨q.1,q.2.1,(Ext.of_below ((Below.refl _ _).drew)).trans q.2.2⟩
 have HN2:Hid (∀ w',Ext b w1 w'->w'.cell? ⟨t2,0,none⟩=some (.func (.func 125) #[] #[.pointer (some ⟨t1,0,none⟩),.pointer (some ⟨t2,0,none⟩)])/\w'.cell? ⟨x,6,none⟩=some (.pointer la)):=fun w' k=>⟨yv hBw1.c2 k hBw1.n2,yv (za hbw1) k HXB.out⟩
 have hlx:=zc hbw1
 have HBB2:=zh hBw1
 have HBK2:=zh hbw1
 clear hBw1 hbw1
 go_upto_region 2 with fail
 go_cut [] from 11 (fun wq=>Hid (I ((allX le).foldl (fun s y=>stp y s) s1) wq)/\Hid (Ext b w1 wq))
 case first =>
  go_region_held3 (fun w'=>w'.cell? ⟨t2,0,none⟩=some (.func (.func 125) #[] #[.pointer (some ⟨t1,0,none⟩),.pointer (some ⟨t2,0,none⟩)])/\w'.cell? ⟨x,6,none⟩=some (.pointer la)) (with_reducible (first|exact HC9.out|exact HC2.out|fail "KEEP")) (first|(go_at_call 125;refine HL2.out.mono ?_;rintro e w9 ⟨rfl,hI9,hx9⟩;have HC9:Hid (w9.cell? ⟨t2,0,none⟩=some (.func (.func 125) #[] #[.pointer (some ⟨t1,0,none⟩),.pointer (some ⟨t2,0,none⟩)])/\w9.cell? ⟨x,6,none⟩=some (.pointer la)):=HN2.out w9 hx9;have HI9:=zh hI9;have HX9:=zh hx9;clear hI9 hx9))
  go_wp2_with fail
  go_meet
  case rel=>exact⟨HI9,HX9⟩
 case rest =>
  obtain⟨HI2,HX2⟩:=hcut
  rename World=>w2
  have hBw2:=HBB2.out.ext HX2.out
  have hbw2:=(HX2.out.block x (zc HBK2.out) HXB.out).trans HBK2.out
  have HHR2:Hid (RepL w2 D ri rs):=HHR.out.extD HX2.out HD.out
  have HHA2:Hid (RepL w2 D ar gs):=HHA.out.extD HX2.out HD.out
  clear HHL HHR HHA HC2 HL2 HN2 HLE HBB2 HBK2 hlx
  have HC3:Hid (w2.drew.cell? ⟨t2,0,none⟩=some (.func (.func 125) #[] #[.pointer (some ⟨t1,0,none⟩),.pointer (some ⟨t2,0,none⟩)])/\w2.drew.cell? ⟨x,7,none⟩=some (.pointer ra)):=⟨hBw2.c2,za hbw2⟩
  have HL3:Hid (Calls Tryz.prog 125 #[.pointer ra,.pointer (some ⟨t1,0,none⟩),.pointer (some ⟨t2,0,none⟩)] w2.drew fun e w'=>e=.returned (.tuple #[])/\I ((allX ri).foldl (fun s y=>stp y s) ((allX le).foldl (fun s y=>stp y s) s1)) w'/\Ext b w2 w'):=by
    have:=ex_opt (W:=w2.drew) HE.out HRI.out (by rw[HCT.out];have:=HCS.out;omega) (HV.out.on HI2.out ((Below.refl _ _).drew)) (HHR2.out.step' ((Below.refl _ _).drew)) HD.out (hBw2.on ((Below.refl _ _).drew))
    rw[HRA.out]at this
    exact this.mono fun e w' q=>⟨q.1,q.2.1,(Ext.of_below ((Below.refl _ _).drew)).trans q.2.2⟩
  have HN3:Hid (∀ w',Ext b w2 w'->w'.cell? ⟨t2,0,none⟩=some (.func (.func 125) #[] #[.pointer (some ⟨t1,0,none⟩),.pointer (some ⟨t2,0,none⟩)])/\w'.cell? ⟨x,7,none⟩=some (.pointer ra)):=fun w' k=>⟨yv hBw2.c2 k hBw2.n2,yv (za hbw2) k HXB.out⟩
  have hlx:=zc hbw2
  have HBB3:=zh hBw2
  have HBK3:=zh hbw2
  clear hBw2 hbw2
  go_upto_region 3 with fail
  go_cut [] from 17 (fun wq=>Hid (I ((allX ri).foldl (fun s y=>stp y s) ((allX le).foldl (fun s y=>stp y s) s1)) wq)/\Hid (Ext b w2 wq))
  case first =>
   go_region_held3 (fun w'=>w'.cell? ⟨t2,0,none⟩=some (.func (.func 125) #[] #[.pointer (some ⟨t1,0,none⟩),.pointer (some ⟨t2,0,none⟩)])/\w'.cell? ⟨x,7,none⟩=some (.pointer ra)) (with_reducible (first|exact HC9.out|exact HC3.out|fail "KEEP")) (first|(go_at_call 125;refine HL3.out.mono ?_;rintro e w9 ⟨rfl,hI9,hx9⟩;have HC9:Hid (w9.cell? ⟨t2,0,none⟩=some (.func (.func 125) #[] #[.pointer (some ⟨t1,0,none⟩),.pointer (some ⟨t2,0,none⟩)])/\w9.cell? ⟨x,7,none⟩=some (.pointer ra)):=HN3.out w9 hx9;have HI9:=zh hI9;have HX9:=zh hx9;clear hI9 hx9))
   go_wp2_with fail
   go_meet
   case rel=>exact⟨HI9,HX9⟩
  case rest =>
   obtain⟨HI3,HX3⟩:=hcut
   rename World=>w3
   have hBw3:=HBB3.out.ext HX3.out
   have hbw3:=(HX3.out.block x (zc HBK3.out) HXB.out).trans HBK3.out
   have HHA3:Hid (RepL w3 D ar gs):=HHA2.out.extD HX3.out HD.out
   have hgl:=RepL.len _ _ HAW.out
   have hav3:ArgsAt w3 D av gs:=by
    have k:=(HX1.out.trans HX2.out).trans HX3.out
    rcases HVW.out with q|⟨g,cap,cur,q1,q2,q3,q4⟩
    ·exact Or.inl q
    ·exact Or.inr ⟨g,cap,cur,q1,q2,(k.block g (zc q3) (HD.out g q2)).trans q3,q4⟩
   obtain⟨hgn,aa,ac,rfl,hac⟩:=hav3.shape
   rw[hgl]at hgn hbw3
   have HAC:Hid (∀ i (h:i<ar.length),∃ g c:Nat,aa=some ⟨g,0,none⟩/\g≠b/\w3.cell? ⟨g,i,none⟩=some (.pointer (some ⟨c,0,none⟩))/\RepL w3 D [ar[i]] [.pointer (some ⟨c,0,none⟩)]):=fun i h=>by
    obtain⟨c,z1,z2⟩:=RepL.nth _ _ HHA3.out i h
    rcases hav3 with⟨q1,q2⟩|⟨g,cap,cur,q1,q2,q3,q4⟩
    ·rw[q1]at z1;simp at z1
    ·obtain⟨g',e1,e2,e3⟩:=hac i _ z1
     have:g'=g:=by cases q1;cases e1;rfl
     subst this
     exact⟨g',c,e1,HD.out g' q2,e3,z2⟩
   have y8:w3.cell? ⟨x,8,none⟩=some (.slice aa ar.length ac):=za hbw3
   have hlx:=zc hbw3
   have hn':(ar.length:Int)<=9223372036854775807:=by omega
   have HBB4:=zh hBw3
   obtain⟨s3,hs3⟩:∃ s3,s3=(allX ri).foldl (fun s y=>stp y s) ((allX le).foldl (fun s y=>stp y s) s1):=⟨_,rfl⟩
   have HI3':Hid (I s3 w3):=by rw[hs3];exact HI3.out
   have HS3:=zh hs3
   have HXX:Hid (Ext b W w3):=(HX1.out.trans HX2.out).trans HX3.out
   clear HI3 hs3 hac hav3 HC3 HL3 HN3 HBB3 HBK3 HHA2 HHR2 hBw3 hbw3 HVW HHA3
   go_wp2_with fail
   clear y8 hlx
   go_loopg [28] ar.length (fun k vi wr=>∃ i:Nat,i<=ar.length/\k=ar.length - i/\vi=.int .i64 (i:Int)/\Hid (I ((allX (ar.take i)).foldl (fun s y=>stp y s) s3) wr)/\Hid (Ext b w3 wr))
   case atStart=>exact⟨0,by omega,by omega,rfl,by rw[List.take_zero,kP];exact HI3',Ext.refl _ _⟩
   case round =>
    obtain⟨i,hid,hk,rfl,HII,HXW⟩:=hrel
    by_cases hlt:i<ar.length
    ·have hlt':(i:Int)<(ar.length:Int):=by omega
     obtain⟨g,c,rfl,hgb,hgc,hrc⟩:=HAC.out i hlt
     have x0:wr.cell? ⟨g,i,none⟩=some (.pointer (some ⟨c,0,none⟩)):=yv hgc HXW.out hgb
     have hgw:=zg x0
     have hBr:=HBB4.out.ext HXW.out
     have c2:=hBr.c2
     have hl2:=zg c2
     obtain⟨z1,z2⟩:=HAR.out i hlt
     have HC:=zh (HE.out ar[i] z1 z2 wr D c _ (by have:=HCS.out;have h2:=allX_part hlt;rw[HCT.out,HS3.out,HCT.out,HCT.out];omega) HII.out (hrc.extD HXW.out HD.out) HD.out hBr)
     clear hgc hrc hBr z1 z2
     go_wp2_with fail
     refine HC.out.mono ?_
     rintro e w5 ⟨rfl,hI5,hx5⟩
     have HI5:Hid (I ((allX (ar.take (i+1))).foldl (fun s y=>stp y s) s3) w5):=by
      rw[vM hlt,List.foldl_append]
      exact hI5
     have HX5:=zh (HXW.out.trans hx5)
     clear hI5 hx5 HC x0 hgw c2 hl2
     go_wp2_with fail
     go_roundg (ar.length - (i+1))
     case measure=>omega
     case rel=>exact⟨i+1,by omega,rfl,by go_num,HI5,HX5⟩
    ·have hlt':¬(i:Int)<(ar.length:Int):=by omega
     have he:i=ar.length:=by omega
     have HIF:Hid (I ((allX [⟨code,pos,n,md,nm,op,le,ri,ar⟩]).foldl (fun s y=>stp y s) s) wr):=by
      have:=HII.out
      rw[he,List.take_length]at this
      rw[kQ,kP,List.append_nil,List.foldl_cons,<-HS1.out,List.foldl_append,List.foldl_append,<-HS3.out]
      exact this
     have HXF:=zh (HXX.out.trans HXW.out)
     go_wp2_with fail
     go_end0
     exact⟨rfl,HIF.out,HXF.out⟩
theorem wxn:∀(l:List X),Tp.WX l->∀ i (h:i<l.length),Tp.WX [l[i]]:=by
 intro l
 induction l with
 | nil=>intro _ i h;simp at h
 | cons x l ih =>
  intro hw i h
  obtain⟨code,pos,n,md,nm,op,le,ri,ar⟩:=x
  rw[Tp.WX]at hw
  cases i with
  | zero =>
   show Tp.WX [⟨code,pos,n,md,nm,op,le,ri,ar⟩]
   rw[Tp.WX]
   exact⟨hw.1,by rw[Tp.WX];trivial⟩
  | succ i=>exact ih hw.2 i (by simpa using h)
theorem jY {l:List X}(h:l.length=1) (hw:Tp.WX l):∃ z,l=[z]/\Tp.WX [z]:=by
 obtain⟨z,rfl⟩:=Tp.len1 h
 exact⟨z,rfl,hw⟩
theorem wx_parts {y:X}(h:Tp.WX [y]):(y.left=[]\/∃ z,y.left=[z]/\Tp.WX [z])/\(y.right=[]\/∃ z,y.right=[z]/\Tp.WX [z])/\∀ i (h:i<y.args.length),Tp.WX [y.args[i]]:=by
 obtain⟨code,pos,n,md,nm,op,le,ri,ar⟩:=y
 rw[Tp.WX]at h
 simp only
 rcases h.1 with⟨rfl,h1,rfl,rfl,rfl,rfl,rfl,rfl⟩|⟨rfl,rfl,h2,rfl,rfl,rfl,rfl⟩|⟨rfl,rfl,h2,rfl,h3,h4,rfl,rfl⟩|⟨rfl,rfl,rfl,rfl,h2,h3,h4,rfl,rfl⟩|⟨rfl,rfl,rfl,rfl,h2,h3,h4,h5,h6,rfl⟩|⟨rfl,rfl,h2,rfl,rfl,rfl,h3⟩
 ·exact⟨Or.inl rfl,Or.inl rfl,fun i h=>by simp at h⟩
 ·exact⟨Or.inl rfl,Or.inl rfl,fun i h=>by simp at h⟩
 ·exact⟨Or.inr (jY h4 h3),Or.inl rfl,fun i h=>by simp at h⟩
 ·exact⟨Or.inr (jY h4 h3),Or.inl rfl,fun i h=>by simp at h⟩
 ·exact⟨Or.inr (jY h4 h3),Or.inr (jY h6 h5),fun i h=>by simp at h⟩
 ·exact⟨Or.inl rfl,Or.inl rfl,fun i h=>wxn ar h3 i h⟩
theorem szN {y z:X}{l:List X}{N:Nat}(h:SizeOf.sizeOf y<=N+1) (hl:l=[z]) (hy:SizeOf.sizeOf l<SizeOf.sizeOf y):SizeOf.sizeOf z<=N:=by
 subst hl
 simp only [List.cons.sizeOf_spec]at hy
 omega
theorem ex_all {σ:Type}{I:σ->World->Prop}{stp:X->σ->σ}{cnt:σ->Nat}{b p1 p2 t1 t2:Nat}(hV:Vis I stp cnt b 66 p1 p2):∀ N,ExC I stp cnt b 66 p1 p2 t1 t2 N:=by
 intro N
 induction N with
 | zero=>intro y hy;cases y;simp only [X.mk.sizeOf_spec]at hy;omega
 | succ N ih =>
  intro y hy hw W D x s hc hI hr hD hB
  obtain⟨q1,q2,q3⟩:=wx_parts hw
  have hs:SizeOf.sizeOf y.left<SizeOf.sizeOf y/\SizeOf.sizeOf y.right<SizeOf.sizeOf y/\SizeOf.sizeOf y.args<SizeOf.sizeOf y:=by
   cases y
   simp only [X.mk.sizeOf_spec]
   omega
  refine expr_step hV ih (q1.imp id fun ⟨z,e,q⟩=>⟨z,e,szN hy e hs.1,q⟩) (q2.imp id fun ⟨z,e,q⟩=>⟨z,e,szN hy e hs.2.1,q⟩) (fun i h=>⟨?_,q3 i h⟩) hw hc hI hr hD hB
  have:SizeOf.sizeOf y.args[i]<SizeOf.sizeOf y.args:=List.sizeOf_lt_of_mem (List.getElem_mem h)
  omega
end Go.Proofs.YthnoedjbhbkdeaaGreatDoor
namespace Go.Proofs.YthnoedjbhbkdeaaGreatDoor
open Go.RowKit Go.Sort
open Tp (X S)
def allSt:List S->List X
 | []=>[]
 | ⟨_,_,_,ix,vl,th,el⟩ :: ss=>allX ix++allX vl++allSt th++allSt el++allSt ss
theorem jE:allSt []=[]:=by rw[allSt]
theorem jc (s:S) (l:List S):allSt (s :: l)=allX s.index++allX s.value++allSt s.thn++allSt s.els++allSt l:=by
 obtain⟨⟩:=s
 rw[allSt]
theorem vN (l m:List S):allSt (l++m)=allSt l++allSt m:=by
 induction l with
 | nil=>rw[jE];rfl
 | cons x l ih=>rw[List.cons_append,jc,jc,ih];simp
theorem xo {l:List S}{i:Nat}(h:i<l.length):allSt (l.take (i+1))=allSt (l.take i)++(allX l[i].index++allX l[i].value++allSt l[i].thn++allSt l[i].els):=by
 rw[List.take_succ_eq_append_getElem h,vN,jc,jE,List.append_nil]
theorem allSt_part {l:List S}{i:Nat}(h:i<l.length):(allSt (l.take i)).length+(allX l[i].index).length+(allX l[i].value).length+(allSt l[i].thn).length+(allSt l[i].els).length<=(allSt l).length:=by
 have e:l=l.take (i+1)++l.drop (i+1):=(List.take_append_drop _ _).symm
 have h2:(allSt l).length=(allSt (l.take (i+1))).length+(allSt (l.drop (i+1))).length:=by
  conv=>lhs;rw[e,vN,List.length_append]
 rw[h2,xo h]
 simp only [List.length_append]
 omega
def WkC {σ:Type}(I:σ->World->Prop) (stp:X->σ->σ) (cnt:σ->Nat) (b p1 p2:Nat) (W:World) (l:List S) (v:Value):Prop:=∀(W':World) (s:σ),Ext b W W'->cnt s+(allSt l).length<=100000->I s W'->Calls Tryz.prog 67 #[v,.func (.func 66) #[] #[.pointer (some ⟨p1,0,none⟩),.pointer (some ⟨p2,0,none⟩)]] W' fun e w'=>e=.returned (.tuple #[])/\I ((allSt l).foldl (fun s y=>stp y s) s) w'/\Ext b W' w'
theorem walk_go {σ:Type}{I:σ->World->Prop}{stp:X->σ->σ}{cnt:σ->Nat}{b p1 p2:Nat}(hV:Vis I stp cnt b 66 p1 p2) {l:List S}{aa:Option Addr}{ac:Nat}(hn:l.length<=9223372036854775807) {W:World}{D:Nat->Prop}{s:σ}(hc:cnt s+(allSt l).length<=100000) (hI:I s W) (hD:∀ i,D i->i≠b) (hb:b<W.heap.size)
  (hst:∀ i (h:i<l.length),∃(g:Nat) (ls vs:List Value) (xa va ta ea:Option Addr) (tc ec:Nat),aa=some ⟨g,0,none⟩/\g<W.heap.size/\g≠b/\(∀ j,j<7->W.cell? ⟨g,i * 7+j,none⟩=[.int .i64 (l[i].code:Int),.int .i64 (l[i].pos:Int),.string (bs l[i].name),.pointer xa,.pointer va,.slice ta l[i].thn.length tc,.slice ea l[i].els.length ec][j]?)/\RepL W D l[i].index ls/\RepL W D l[i].value vs/\ls.headD (.pointer none)=.pointer xa/\vs.headD (.pointer none)=.pointer va/\(l[i].index=[]\/∃ z,l[i].index=[z]/\Tp.WX [z])/\(l[i].value=[]\/∃ z,l[i].value=[z]/\Tp.WX [z])/\WkC I stp cnt b p1 p2 W l[i].thn (.slice ta l[i].thn.length tc)/\WkC I stp cnt b p1 p2 W l[i].els (.slice ea l[i].els.length ec)) :
  Calls Tryz.prog 67 #[.slice aa l.length ac,.func (.func 66) #[] #[.pointer (some ⟨p1,0,none⟩),.pointer (some ⟨p2,0,none⟩)]] W fun e w'=>e=.returned (.tuple #[])/\I ((allSt l).foldl (fun s y=>stp y s) s) w'/\Ext b W w':=by
 have hmf:=zm
 have hn':(l.length:Int)<=9223372036854775807:=by omega
 obtain⟨W1,hW1⟩:∃ W1,W1=(W.alloc (.cells #[.func (.func 66) #[] #[.pointer (some ⟨p1,0,none⟩),.pointer (some ⟨p2,0,none⟩)]] 112)).alloc (.cells #[(.func (.func 125) #[] #[.pointer (some ⟨W.heap.size,0,none⟩),.pointer (some ⟨W.heap.size+1,0,none⟩)])] 112):=⟨_,rfl⟩
 have hbW:Below W.heap.size W W1:=by rw[hW1];exact(zb _ _).alloc (by simp) _
 obtain⟨t1,ht1⟩:∃ t1,t1=W.heap.size:=⟨_,rfl⟩
 obtain⟨t2,ht2⟩:∃ t2,t2=W.heap.size+1:=⟨_,rfl⟩
 have hBx:Bx W1 66 t1 t2 b p1 p2:=by
  rw[ht1,ht2,hW1]
  refine⟨?_,?_,by omega,by omega⟩
  ·exact zJ (za (zq W _)) _
  ·simp
 have HV:=zh hV
 have HBW:=zh hbW
 have HBX:=zh hBx
 have HI1:=zh (hV.on hI hbW)
 have HD:=zh hD
 have HST:=zh hst
 have HCS:=zh hc
 have HCT:Hid (∀(l:List X) (s:σ),cnt (l.foldl (fun s y=>stp y s) s)=cnt s+l.length):=fold_cnt hV.ct
 have HW1:=zh hW1
 have hbl1:b<W1.heap.size:=Nat.lt_of_lt_of_le hb hbW.size
 clear hbW hBx hI hD hst hV hW1 hb hc
 go_enter Tryz.func67,Tryz.ntmps67
 go_upto_region 3 with fail
 rw[<-HW1.out]
 rw[<-ht1]
 rw[show t1+1=t2 by omega]
 clear ht1 ht2 HW1
 go_wp2_with fail
 go_loopg [10] l.length (fun k vi wr=>∃ i:Nat,i<=l.length/\k=l.length - i/\vi=.int .i64 (i:Int)/\Hid (I ((allSt (l.take i)).foldl (fun s y=>stp y s) s) wr)/\Hid (Ext b W1 wr))
 case atStart=>exact⟨0,by omega,by omega,rfl,by rw[List.take_zero,jE];exact HI1,Ext.refl _ _⟩
 case round =>
  obtain⟨i,hid,hk,rfl,HII,HXW⟩:=hrel
  by_cases hlt:i<l.length
  ·have hlt':(i:Int)<(l.length:Int):=by omega
   obtain⟨g,ls,vs,xa,va,ta,ea,tc,ec,rfl,hgl,hgb,hcl,hrx,hrv,hxa,hva,hix,hvl,hT,hE⟩:=HST.out i hlt
   have hEW:Ext b W wr:=(Ext.of_below HBW.out).trans HXW.out
   have hcell:∀ j,j<7->wr.cell? ⟨g,i * 7+j,none⟩=[.int .i64 (l[i].code:Int),.int .i64 (l[i].pos:Int),.string (bs l[i].name),.pointer xa,.pointer va,.slice ta l[i].thn.length tc,.slice ea l[i].els.length ec][j]?:=fun j hj=>by
    rw[<-hcl j hj]
    unfold World.cell?
    rw[hEW.block g hgl hgb]
   have x0:wr.cell? ⟨g,i * 7,none⟩=some (.int .i64 (l[i].code:Int)):=hcell 0 (by omega)
   have x1:wr.cell? ⟨g,i * 7+1,none⟩=some (.int .i64 (l[i].pos:Int)):=hcell 1 (by omega)
   have x2:wr.cell? ⟨g,i * 7+2,none⟩=some (.string (bs l[i].name)):=hcell 2 (by omega)
   have x3:wr.cell? ⟨g,i * 7+3,none⟩=some (.pointer xa):=hcell 3 (by omega)
   have x4:wr.cell? ⟨g,i * 7+4,none⟩=some (.pointer va):=hcell 4 (by omega)
   have x5:wr.cell? ⟨g,i * 7+5,none⟩=some (.slice ta l[i].thn.length tc):=hcell 5 (by omega)
   have x6:wr.cell? ⟨g,i * 7+6,none⟩=some (.slice ea l[i].els.length ec):=hcell 6 (by omega)
   have hgw:=zg x0
   obtain⟨wq,hwq⟩:∃ wq,wq=wr.alloc (.cells #[.int .i64 (l[i].code:Int),.int .i64 (l[i].pos:Int),.string (bs l[i].name),.pointer xa,.pointer va,.slice ta l[i].thn.length tc,.slice ea l[i].els.length ec] 96):=⟨_,rfl⟩
   obtain⟨b2,hb2⟩:∃ b2,b2=wr.heap.size:=⟨_,rfl⟩
   have hbq:Below wr.heap.size wr wq:=by rw[hwq];exact zb _ _
   have hkq:wq.heap[b2]?=some (.cells #[.int .i64 (l[i].code:Int),.int .i64 (l[i].pos:Int),.string (bs l[i].name),.pointer xa,.pointer va,.slice ta l[i].thn.length tc,.slice ea l[i].els.length ec] 96 (0,0)):=by rw[hwq,hb2];exact zq _ _
   have hb2b:b2≠b:=by have:=HXW.out.size;omega
   have hEQ:Ext b W wq:=hEW.trans (Ext.of_below hbq)
   have hxq:Ext b W1 wq:=HXW.out.trans (Ext.of_below hbq)
   have hBq:=HBX.out.ext hxq
   have hrxq:=hrx.extD hEQ HD.out
   have hrvq:=hrv.extD hEQ HD.out
   have hIq:=HV.out.on HII.out hbq
   have hpt:=allSt_part hlt
   have hct:=HCT.out (allSt (l.take i)) s
   have HTK:=zh (xo hlt)
   obtain⟨s0,hs0⟩:∃ s0,s0=(allSt (l.take i)).foldl (fun s y=>stp y s) s:=⟨_,rfl⟩
   rw[<-hs0]at hct hIq
   have HS0:=zh hs0
   obtain⟨N,hN⟩:∃ N,N=SizeOf.sizeOf l[i].index+SizeOf.sizeOf l[i].value:=⟨_,rfl⟩
   have HE:=ex_all (t1:=t1) (t2:=t2) HV.out N
   have HIX:l[i].index=[]\/∃ z,l[i].index=[z]/\SizeOf.sizeOf z<=N/\Tp.WX [z]:=hix.imp id fun ⟨z,e,q⟩=>⟨z,e,by rw[hN,e];simp only [List.cons.sizeOf_spec];omega,q⟩
   have HVL:Hid (l[i].value=[]\/∃ z,l[i].value=[z]/\SizeOf.sizeOf z<=N/\Tp.WX [z]):=hvl.imp id fun ⟨z,e,q⟩=>⟨z,e,by rw[hN,e];simp only [List.cons.sizeOf_spec];omega,q⟩
   have HCX:Hid (Calls Tryz.prog 125 #[.pointer xa,.pointer (some ⟨t1,0,none⟩),.pointer (some ⟨t2,0,none⟩)] wq fun e w'=>e=.returned (.tuple #[])/\I ((allX l[i].index).foldl (fun s y=>stp y s) s0) w'/\Ext b wq w'):=by
    have:=ex_opt HE HIX (by have:=HCS.out;omega) hIq hrxq HD.out hBq
    rw[hxa]at this
    exact this
   have HRV:=zh hrvq
   have HVA:=zh hva
   have HEX:=zh HE
   have HBQ:=zh hBq
   have HKQ:=zh hkq
   have HEQ:=zh hEQ
   have HXQ:=zh hxq
   have HPT:Hid (cnt s0+(allX l[i].index).length+(allX l[i].value).length+(allSt l[i].thn).length+(allSt l[i].els).length<=100000):=by show _<=_;have:=HCS.out;omega
   have HT:=zh hT
   have HEL:=zh hE
   have y3:wq.cell? ⟨b2,3,none⟩=some (.pointer xa):=za hkq
   have hlq:=zc hkq
   have c2:=hBq.c2
   have hlt2:=zg c2
   clear hcl hrx hrv hxa hva hix hvl hT hE hEW hcell hbq hEQ hxq hBq hrxq hrvq hIq hpt hct hs0 hN HE HIX hkq HII hgb hgl
   go_upto_region 6 with fail
   rw[<-hwq,<-hb2]
   clear hwq hb2 x0 x1 x2 x3 x4 x5 x6 hgw
   go_wp2_with fail
   refine HCX.out.mono ?_
   rintro e w3 ⟨rfl,hI3,hx3⟩
   have HCV:Hid (Calls Tryz.prog 125 #[.pointer va,.pointer (some ⟨t1,0,none⟩),.pointer (some ⟨t2,0,none⟩)] w3 fun e w'=>e=.returned (.tuple #[])/\I ((allX l[i].value).foldl (fun s y=>stp y s) ((allX l[i].index).foldl (fun s y=>stp y s) s0)) w'/\Ext b w3 w'):=by
    have:=ex_opt HEX.out HVL.out (by rw[HCT.out];have:=HPT.out;omega) hI3 (HRV.out.extD hx3 HD.out) HD.out (HBQ.out.ext hx3)
    rw[HVA.out]at this
    exact this
   have hk3:=(hx3.block b2 (zc HKQ.out) hb2b).trans HKQ.out
   have HK3:=zh hk3
   have HX3:=zh hx3
   have HB3:=zh (HBQ.out.ext hx3)
   clear hI3 HCX y3 hlq c2 hlt2
   have y4:w3.cell? ⟨b2,4,none⟩=some (.pointer va):=za hk3
   have hl3:=zc hk3
   have c2:=HB3.out.c2
   have hlt2:=zg c2
   clear hk3 hx3
   go_wp2_with fail
   refine HCV.out.mono ?_
   rintro e w4 ⟨rfl,hI4,hx4⟩
   have hk4:=(hx4.block b2 (zc HK3.out) hb2b).trans HK3.out
   have HK4:=zh hk4
   have HX4:=zh (HX3.out.trans hx4)
   have HB4:=zh (HB3.out.ext hx4)
   have HCT4:=zh (HT.out w4 _ (HEQ.out.trans HX4.out) (by rw[HCT.out,HCT.out];have:=HPT.out;omega) hI4)
   clear hI4 HCV y4 hl3 c2 hlt2
   have y5:w4.cell? ⟨b2,5,none⟩=some (.slice ta l[i].thn.length tc):=za hk4
   have hl4:=zc hk4
   have c1:=HB4.out.c1
   have hlt1:=zg c1
   clear hk4 hx4
   go_wp2_with fail
   refine HCT4.out.mono ?_
   rintro e w5 ⟨rfl,hI5,hx5⟩
   have hk5:=(hx5.block b2 (zc HK4.out) hb2b).trans HK4.out
   have HX5:=zh (HX4.out.trans hx5)
   have HB5:=zh (HB4.out.ext hx5)
   have HCE5:=zh (HEL.out w5 _ (HEQ.out.trans HX5.out) (by rw[HCT.out,HCT.out,HCT.out];have:=HPT.out;omega) hI5)
   clear hI5 HCT4 y5 hl4 c1 hlt1
   have y6:w5.cell? ⟨b2,6,none⟩=some (.slice ea l[i].els.length ec):=za hk5
   have hl5:=zc hk5
   have c1:=HB5.out.c1
   have hlt1:=zg c1
   clear hk5 hx5
   go_wp2_with fail
   refine HCE5.out.mono ?_
   rintro e w6 ⟨rfl,hI6,hx6⟩
   have HI6:Hid (I ((allSt (l.take (i+1))).foldl (fun s y=>stp y s) s) w6):=by
    show I _ _
    rw[HTK.out,List.foldl_append,List.foldl_append,List.foldl_append,List.foldl_append,<-HS0.out]
    exact hI6
   have HX6:=zh ((HXQ.out.trans HX5.out).trans hx6)
   clear hI6 hx6 HCE5 y6 hl5 c1 hlt1
   go_wp2_with fail
   go_roundg (l.length - (i+1))
   case measure=>omega
   case rel=>exact⟨i+1,by omega,rfl,by go_num,HI6,HX6⟩
  ·have hlt':¬(i:Int)<(l.length:Int):=by omega
   have he:i=l.length:=by omega
   have HIF:Hid (I ((allSt l).foldl (fun s y=>stp y s) s) wr):=by
    have:=HII.out
    rw[he,List.take_length]at this
    exact this
   have HXF:=zh ((Ext.of_below (b:=b) HBW.out).trans HXW.out)
   clear he
   go_wp2_with fail
   go_end0
   exact⟨rfl,HIF.out,HXF.out⟩
end Go.Proofs.YthnoedjbhbkdeaaGreatDoor
namespace Go.Proofs.YthnoedjbhbkdeaaGreatDoor
open Go.RowKit Go.Sort
open Tp (X S Bs)
theorem ws_nT:∀(l:List S),Tp.WS l->∀ i (h:i<l.length),Tp.WS [l[i]]:=by
 intro l
 induction l with
 | nil=>intro _ i h;simp at h
 | cons x l ih =>
  intro hw i h
  obtain⟨code,pos,nm,ix,v,th,el⟩:=x
  rw[Tp.WS]at hw
  cases i with
  | zero =>
   show Tp.WS [⟨code,pos,nm,ix,v,th,el⟩]
   rw[Tp.WS]
   exact⟨hw.1,by rw[Tp.WS];trivial⟩
  | succ i=>exact ih hw.2 i (by simpa using h)
theorem optWT {v:List X}(h:Tp.ev v):∃ z,v=[z]/\Tp.WX [z]:=jY h.2.1 h.1
theorem ws_partsT {s:S}(h:Tp.WS [s]):(s.index=[]\/∃ z,s.index=[z]/\Tp.WX [z])/\(s.value=[]\/∃ z,s.value=[z]/\Tp.WX [z])/\Tp.WS s.thn/\Tp.WS s.els:=by
 obtain⟨code,pos,nm,ix,v,th,el⟩:=s
 rw[Tp.WS]at h
 simp only
 rcases h.1 with⟨rfl,_,a2,a3,rfl,rfl⟩|⟨rfl,rfl,rfl,a3,a4,a5⟩|⟨rfl,rfl,rfl,a3,a4,rfl⟩|⟨hc,rfl,rfl,a3,rfl,rfl⟩|⟨rfl,rfl,rfl,a3,_,rfl,rfl⟩
 ·exact⟨a2.imp id fun q=>jY q.2.1 q.1,Or.inr (optWT a3),Tp.WS_nil,Tp.WS_nil⟩
 ·exact⟨Or.inl rfl,Or.inr (optWT a3),a4,a5⟩
 ·exact⟨Or.inl rfl,Or.inr (optWT a3),a4,Tp.WS_nil⟩
 ·exact⟨Or.inl rfl,Or.inr (optWT a3),Tp.WS_nil,Tp.WS_nil⟩
 ·exact⟨Or.inl rfl,Or.inr (optWT a3),Tp.WS_nil,Tp.WS_nil⟩
theorem walk_all {σ:Type}{I:σ->World->Prop}{stp:X->σ->σ}{cnt:σ->Nat}{b p1 p2:Nat}(hV:Vis I stp cnt b 66 p1 p2) {D:Nat->Prop}(hD:∀ i,D i->i≠b) :
  ∀(N:Nat) (l:List S),SizeOf.sizeOf l<=N->Tp.WS l->∀(W:World) (v:Value) (cs:List Value) (s:σ),cnt s+(allSt l).length<=100000->I s W->b<W.heap.size->RepS W D l cs->OwnS W D v l.length cs ->
  Calls Tryz.prog 67 #[v,.func (.func 66) #[] #[.pointer (some ⟨p1,0,none⟩),.pointer (some ⟨p2,0,none⟩)]] W fun e w'=>e=.returned (.tuple #[])/\I ((allSt l).foldl (fun s y=>stp y s) s) w'/\Ext b W w':=by
 intro N
 induction N with
 | zero=>intro l h;cases l <;> simp at h <;> omega
 | succ N ih =>
  intro l hl hw W v cs s hc hI hb hr ho
  obtain⟨hlen,aa,ac,rfl⟩:=ho.long
  refine walk_go hV hlen hc hI hD hb fun i hi=>?_
  obtain⟨tv,ev,ls,vs,tcs,ecs,q0,q1,_,q3,_,q5,q6,q7,q8⟩:=RepS.nth l cs hr i hi
  obtain⟨g,g1,g2,g3⟩:=ho.at' i hi
  have hgD:g≠b:=by
   rcases ho with⟨_,q⟩|⟨g',cap,cur,e1,e2,_⟩
   ·omega
   ·cases e1
    cases g1
    exact hD _ e2
  obtain⟨t0,ta,tc,rfl⟩:=q6.long
  obtain⟨e0,ea,ec,rfl⟩:=q8.long
  obtain⟨xa,e1⟩:=q1.headP
  obtain⟨va,e2⟩:=q3.headP
  obtain⟨z1,z2,z3,z4⟩:=ws_partsT (ws_nT l hw i hi)
  have hsz:SizeOf.sizeOf l[i]<SizeOf.sizeOf l:=List.sizeOf_lt_of_mem (List.getElem_mem hi)
  obtain⟨hs2,hs3⟩:=sizeS l[i]
  have hk:∀ {W':World},Ext b W W'->∀ i,D i->i<W.heap.size->W'.heap[i]?=W.heap[i]?/\D i:=fun {W'} k i hi hl=>⟨k.block i hl (hD i hi),hi⟩
  refine⟨g,ls,vs,xa,va,ta,ea,tc,ec,g1,g2,hgD,fun j hj=>?_,q1,q3,e1,e2,z1,z2,fun W' s' hx hc' hI'=>?_,fun W' s' hx hc' hI'=>?_⟩
  ·rw[g3 j hj,q0 j hj,e1,e2]
  ·exact ih l[i].thn (by omega) z3 W' _ tcs s' hc' hI' (Nat.lt_of_lt_of_le hb hx.size) (q5.mono' (hk hx)) (q6.mono (hk hx))
  ·exact ih l[i].els (by omega) z4 W' _ ecs s' hc' hI' (Nat.lt_of_lt_of_le hb hx.size) (q7.mono' (hk hx)) (q8.mono (hk hx))
def usX (o:Bs) (s:List X):List Bs:=(s.filter fun y=>decide (y.mod=o/\o≠[])).map (·.name)
def boolF (l:List Bs):Bs->Option Value:=fun k=>if k∈l then some (.bool true) else none
theorem usX_yes {o:Bs}{s:List X}{y:X}(h:y.mod=o/\o≠[]):updV (boolF (usX o s)) y.name (.bool true)=boolF (usX o (s++[y])):=by
 funext k
 have e:usX o (s++[y])=usX o s++[y.name]:=by unfold usX;rw[List.filter_append,List.map_append,List.filter_cons_of_pos (by simpa using h)];rfl
 unfold updV boolF
 rw[e]
 by_cases hk:k=y.name
 ·rw[if_pos hk,if_pos (List.mem_append.2 (Or.inr (by simp[hk])))]
 ·rw[if_neg hk]
  show (if k∈usX o s then some (Value.bool true) else none)=_
  by_cases hq:k∈usX o s
  ·rw[if_pos hq,if_pos (List.mem_append.2 (Or.inl hq))]
  ·rw[if_neg hq,if_neg]
   intro z
   rcases List.mem_append.1 z with z|z
   ·exact hq z
   ·exact hk (by simpa using z)
theorem usX_no {o:Bs}{s:List X}{y:X}(h:¬(y.mod=o/\o≠[])):usX o (s++[y])=usX o s:=by
 unfold usX
 rw[List.filter_append,List.map_append,List.filter_cons_of_neg (by simpa using h)]
 simp
structure UsI (o:Bs) (b p1 p2:Nat) (s:List X) (W:World):Prop where
 c1:W.cell? ⟨p1,0,none⟩=some (.string (bs o))
 c2:W.cell? ⟨p2,0,none⟩=some (.map (some b))
 n1:p1≠b
 n2:p2≠b
 mp:∃ n,n<=s.length/\MapV W b n (boolF (usX o s))
theorem UsI.on {o:Bs}{b p1 p2:Nat}{s:List X}{W W':World}(h:UsI o b p1 p2 s W) (k:Below W.heap.size W W'):UsI o b p1 p2 s W':=by
 obtain⟨n,hn,hm⟩:=h.mp
 exact⟨(k.cell (p:=⟨p1,0,none⟩) (zg h.c1)).trans h.c1,(k.cell (p:=⟨p2,0,none⟩) (zg h.c2)).trans h.c2,h.n1,h.n2,n,hn,hm.on (k.block _ hm.lt)⟩
theorem wx_nm {y:X}(h:Tp.WX [y]):y.name.length<=1000000:=by
 obtain⟨code,pos,n,md,nm,op,le,ri,ar⟩:=y
 rw[Tp.WX]at h
 simp only
 rcases h.1 with⟨rfl,h1,rfl,rfl,rfl,rfl,rfl,rfl⟩|⟨rfl,rfl,h2,rfl,rfl,rfl,rfl⟩|⟨rfl,rfl,h2,rfl,h3,h4,rfl,rfl⟩|⟨rfl,rfl,rfl,rfl,h2,h3,h4,rfl,rfl⟩|⟨rfl,rfl,rfl,rfl,h2,h3,h4,h5,h6,rfl⟩|⟨rfl,rfl,h2,rfl,rfl,rfl,h3⟩
 ·simp
 ·exact(Tp.okr_len h2).2
 ·exact(Tp.okr_len h2).2
 ·simp
 ·simp
 ·exact(Tp.okr_len h2).2
theorem used1_no {o:Bs}{p1 p2 x:Nat}{W:World}{md nm:Bs}{v0 v1 v2 v5 v6 v7 v8:Value}(c1:W.cell? ⟨p1,0,none⟩=some (.string (bs o))) (hx:W.heap[x]?=some (.cells #[v0,v1,v2,.string (bs md),.string (bs nm),v5,v6,v7,v8] 111 (0,0))) (h:¬(md=o/\o≠[])) :
  Calls Tryz.prog 66 #[.pointer (some ⟨x,0,none⟩),.pointer (some ⟨p1,0,none⟩),.pointer (some ⟨p2,0,none⟩)] W fun e w'=>e=.returned (.tuple #[])/\Below W.heap.size W w':=by
 have x3:W.cell? ⟨x,3,none⟩=some (.string (bs md)):=za hx
 have hxl:=zc hx
 have hpl:=zg c1
 have HB:Hid (∀ n,Below W.heap.size W (W.drewN n)):=fun n=>below_drewN (Below.refl _ _) n
 obtain⟨d,hd⟩:∃ d,((bs md).toList == (bs o).toList)=d:=⟨_,rfl⟩
 have hdm:d=true↔md=o:=by rw[<-hd,zv,zv,beq_iff_eq]
 clear hx
 cases d with
 | false =>
  clear hdm h
  go_enter Tryz.func66,Tryz.ntmps66
  go_upto_region 0 with fail
  go_quiet (fail)
  go_wp2_with fail
  go_end0
  exact⟨rfl,HB.out _⟩
 | true =>
  have ho:o=[]:=Classical.byContradiction fun q=>h ⟨hdm.1 rfl,q⟩
  have hie:(bs o).toList.isEmpty=true:=by rw[zv,ho];rfl
  clear hdm h ho
  go_enter Tryz.func66,Tryz.ntmps66
  go_upto_region 0 with fail
  go_quiet (fail)
  go_wp2_with fail
  go_end0
  exact⟨rfl,HB.out _⟩
theorem used1_yes {o:Bs}{b p1 p2 x n:Nat}{W:World}{md nm:Bs}{f:Bs->Option Value}{v0 v1 v2 v5 v6 v7 v8:Value}(c1:W.cell? ⟨p1,0,none⟩=some (.string (bs o))) (c2:W.cell? ⟨p2,0,none⟩=some (.map (some b))) (hx:W.heap[x]?=some (.cells #[v0,v1,v2,.string (bs md),.string (bs nm),v5,v6,v7,v8] 111 (0,0))) (h:md=o/\o≠[]) (hm:MapV W b n f) (hn:n<1000000) (hnl:nm.length<=1000000) :
  Calls Tryz.prog 66 #[.pointer (some ⟨x,0,none⟩),.pointer (some ⟨p1,0,none⟩),.pointer (some ⟨p2,0,none⟩)] W fun e w'=>e=.returned (.tuple #[])/\MapV w' b (n+1) (updV f nm (.bool true))/\Ext b W w':=by
 have x3:W.cell? ⟨x,3,none⟩=some (.string (bs md)):=za hx
 have hxl:=zc hx
 have hpl:=zg c1
 have hd:((bs md).toList == (bs o).toList)=true:=by rw[zv,zv,beq_iff_eq];exact h.1
 have hie:(bs o).toList.isEmpty=false:=by
  rw[zv]
  cases o with
  | nil=>exact absurd rfl h.2
  | cons a t=>rfl
 have HN:Hid (∀ q,∃ w2,(Instr.mapUpdate 115 (.map (some b)) (.string (bs nm)) (.bool true)).run Tryz.prog (W.drewN q).drew=.ok () w2/\MapV w2 b (n+1) (updV f nm (.bool true))/\Ext b W w2):=fun q=>by
  obtain⟨w2,r1,r2,r3,_⟩:=(hm.on (w':=(W.drewN q).drew) rfl).store (t:=115) Tryz.underlying115 hn nm hnl (.bool true)
  exact⟨w2,r1,r2,(Ext.of_below (b:=b) (below_drewN (Below.refl _ _) q).drew).trans r3⟩
 have HC:Hid (∀ q,(W.drewN q).cell? ⟨p2,0,none⟩=some (.map (some b))/\(W.drewN q).cell? ⟨x,4,none⟩=some (.string (bs nm))/\p2<(W.drewN q).heap.size/\x<(W.drewN q).heap.size):=fun q=>⟨c2,za hx,zg c2,zc hx⟩
 clear hx h hm c2
 go_enter Tryz.func66,Tryz.ntmps66
 go_upto_region 0 with fail
 go_quiet (fail)
 obtain⟨k2,k4,l2,l4⟩:=HC.out nq
 obtain⟨w2,hmu,r2,r3⟩:=HN.out nq
 clear x3 c1 hpl hxl HN HC
 generalize W.drewN nq=Wq at *
 have HR2:=zh r2
 have HR3:=zh r3
 clear r2 r3
 go_upto_region 1 with fail
 go_region
 go_wp2_with fail
 go_end0
 exact⟨rfl,HR2.out,HR3.out⟩
theorem vis_used (o:Bs) (b p1 p2:Nat):Vis (UsI o b p1 p2) (fun y s=>s++[y]) List.length b 66 p1 p2 where
 ct:=fun y s=>by simp
 on:=fun hI hb=>hI.on hb
 does:=fun {s W D x y} hl hI hr hw=>by
  have hnl:=wx_nm hw
  obtain⟨code,pos,n,md,nm,op,le,ri,ar⟩:=y
  obtain⟨av,ls,rs,gs,hb,_,_,har,hav⟩:=hr.unit
  obtain⟨k,hk,hm⟩:=hI.mp
  by_cases h:md=o/\o≠[]
  ·refine(used1_yes hI.c1 hI.c2 hb h hm (by omega) hnl).mono ?_
   rintro e w' ⟨rfl,q1,q2⟩
   refine⟨rfl,⟨yv hI.c1 q2 hI.n1,yv hI.c2 q2 hI.n2,hI.n1,hI.n2,k+1,by simp;omega,?_⟩,q2⟩
   rw[<-usX_yes (y:=⟨code,pos,n,md,nm,op,le,ri,ar⟩) h]
   exact q1
  ·refine(used1_no hI.c1 hb h).mono ?_
   rintro e w' ⟨rfl,q1⟩
   have hI':=hI.on q1
   refine⟨rfl,⟨hI'.c1,hI'.c2,hI.n1,hI.n2,?_⟩,Ext.of_below q1⟩
   obtain⟨k',hk',hm'⟩:=hI'.mp
   refine⟨k',by simp;omega,?_⟩
   rw[usX_no (y:=⟨code,pos,n,md,nm,op,le,ri,ar⟩) h]
   exact hm'
theorem fold_app (l s:List X):l.foldl (fun s y=>s++[y]) s=s++l:=by
 induction l generalizing s with
 | nil=>simp
 | cons y l ih=>rw[List.foldl_cons,ih];simp
end Go.Proofs.YthnoedjbhbkdeaaGreatDoor
