import Derived.Test.YthnoedjbhbkdeaaGreatDoorKFb
import Derived.Test.YthnoedjbhbkdeaaGreatDoorKXa
import Derived.Test.YthnoedjbhbkdeaaGreatDoorKWn
import Derived.Test.YthnoedjbhbkdeaaGreatDoorKPc
import Derived.Test.YthnoedjbhbkdeaaGreatDoorKXl
set_option maxRecDepth 100000
set_option maxHeartbeats 4000000
namespace Go.Proofs.YthnoedjbhbkdeaaGreatDoor
open Go.RowKit Go.Sort
open Tp (X S)
theorem psts_app:∀(a b:List S) (d:Nat),Tp.psts (a++b) d=Tp.psts a d++Tp.psts b d:=by
 intro a
 induction a with
 | nil=>intro b d;simp[Tp.psts,Tp.pst]
 | cons s a ih=>intro b d;rw[List.cons_append,Tp.psts_cons,Tp.psts_cons,ih,List.append_assoc]
theorem psts_one (s:S) (d:Nat):Tp.psts [s] d=Tp.ps1 s d:=by rw[Tp.psts_cons];simp[Tp.psts,Tp.pst]
def accT (l:List S) (d i:Nat):List UInt8:=(Tp.psts (l.take i) d).flatten
theorem accT_succ {l:List S}{i:Nat}(h:i<l.length) (d:Nat):accT l d (i+1)=accT l d i++(Tp.ps1 l[i] d).flatten:=by
 unfold accT
 rw[List.take_succ_eq_append_getElem h,psts_app,psts_one,List.flatten_append]
theorem accT_le (l:List S) (d i:Nat):(accT l d i).length<=((Tp.psts l d).flatten).length:=by
 unfold accT
 conv=>rhs;rw[<-List.take_append_drop i l,psts_app,List.flatten_append,List.length_append]
 omega
theorem WS_nth:∀(l:List S),Tp.WS l->∀ i (h:i<l.length),Tp.WS [l[i]]:=by
 intro l
 induction l with
 | nil=>intro _ i h;simp at h
 | cons x l ih =>
  intro hw i h
  obtain⟨code,pos,nm,ix,v,th,el⟩:=x
  rw[Tp.WS]at hw
  cases i with
  | zero =>
   show Tp.WS [⟨code,pos,nm,ix,v,th,el⟩]
   rw[Tp.WS]
   exact⟨hw.1,by rw[Tp.WS];trivial⟩
  | succ i=>exact ih hw.2 i (by simpa using h)
theorem DS_nth:∀(l:List S) i (h:i<l.length),Tp.DS [l[i]]<=Tp.DS l:=by
 intro l
 induction l with
 | nil=>intro i h;simp at h
 | cons x l ih =>
  intro i h
  have e:Tp.DS (x :: l)=max (Tp.DS [x]) (Tp.DS l):=Tp.DS_app [x] l
  cases i with
  | zero=>show Tp.DS [x]<=_;omega
  | succ i =>
   have hi:i<l.length:=by simpa using h
   have:=ih i hi
   show Tp.DS [l[i]'hi]<=_
   omega
theorem sizeS_nth:∀(l:List S) (i:Nat) (h:i<l.length),SizeOf.sizeOf l[i]<SizeOf.sizeOf l:=fun _ _ h=>List.sizeOf_lt_of_mem (List.getElem_mem h)
def StsC (N:Nat):Prop:=∀(l:List S),SizeOf.sizeOf l<=N->Tp.WS l->∀(d:Nat),d+Tp.DS l<=11->∀(w:World) (D:Nat->Prop) (v:Value) (cs:List Value),RepS w D l cs->OwnS w D v l.length cs->Gw w->(Tp.psts l d).flatten.length<=1000000000 ->
 Calls Tryz.prog 51 #[v,.int .i64 (d:Int)] w fun e w'=>e=.returned (.string (bs (Tp.psts l d).flatten))/\Below w.heap.size w w'
theorem txC_of {w:World}{D:Nat->Prop}{z:X}(hw:Tp.WX [z]) {c:Nat}(hr:RepL w D [z] [.pointer (some ⟨c,0,none⟩)]) (hg:Gw w) (hl:(Tp.pxs [z]).flatten.length<=1000000000):TxC w (some ⟨c,0,none⟩) (bs (Tp.pxs [z]).flatten) :=
 fun W hW=>text_all _ z zn hw W D c (hr.step' hW) (hg.below hW) hl
theorem stC_of {N:Nat}(hN:StsC N) {l:List S}(hs:SizeOf.sizeOf l<=N) (hw:Tp.WS l) {d:Nat}(hd:d+1+Tp.DS l<=11) {w:World}{D:Nat->Prop}{v:Value}{cs:List Value}(hr:RepS w D l cs) (ho:OwnS w D v l.length cs) (hg:Gw w) (hl:(Tp.psts l (d+1)).flatten.length<=1000000000):StC w v d (bs (Tp.psts l (d+1)).flatten) :=
 fun W hW=>hN l hs hw (d+1) hd W D v cs (hr.step' hW) (ho.step' hW) (hg.below hW) hl
theorem headD_one {ls:List Value}{ia:Option Addr}{c:Nat}(h:ls=[.pointer (some ⟨c,0,none⟩)]) (e:ls.headD (.pointer none)=.pointer ia):ia=some ⟨c,0,none⟩:=by
 subst h
 simpa using e.symm
theorem b_set:bs [32,58,61,32]=⟨#[32,58,61,32]⟩:=rfl
theorem b_lb:bs [91]=⟨#[91]⟩:=rfl
theorem b_rb:bs [93]=⟨#[93]⟩:=rfl
theorem b_if:bs [105,102,32]=⟨#[105,102,32]⟩:=rfl
theorem b_then:bs [32,116,104,101,110,10]=⟨#[32,116,104,101,110,10]⟩:=rfl
theorem b_end:bs [101,110,100]=⟨#[101,110,100]⟩:=rfl
theorem b_else:bs [101,108,115,101,10]=⟨#[101,108,115,101,10]⟩:=rfl
theorem b_while:bs [119,104,105,108,101,32]=⟨#[119,104,105,108,101,32]⟩:=rfl
theorem b_do:bs [32,100,111,10]=⟨#[32,100,111,10]⟩:=rfl
theorem b_ret:bs [114,101,116,117,114,110,32]=⟨#[114,101,116,117,114,110,32]⟩:=rfl
theorem b_wri:bs [119,114,105,116,101,32]=⟨#[119,114,105,116,101,32]⟩:=rfl
theorem b_sem:bs [59,10]=⟨#[59,10]⟩:=rfl
theorem cas_set0 {w:World}{d:Nat}{nm:ByteArray}{ia va:Option Addr}{tv:Value}{ea:Option Addr}{en ec:Nat}{TB:ByteArray}{V:ByteArray}(h:ia=none) (hV:TxC w va V):Cas w d nm ia va tv ea en ec TB 1 (TB++nm++⟨#[32,58,61,32]⟩++V):=Or.inl ⟨V,rfl,rfl,h,hV⟩
theorem cas_set1 {w:World}{d:Nat}{nm:ByteArray}{ia va:Option Addr}{tv:Value}{ea:Option Addr}{en ec:Nat}{TB:ByteArray}{c:Nat}{I V:ByteArray}(h:ia=some ⟨c,0,none⟩) (hI:TxC w ia I) (hV:TxC w va V):Cas w d nm ia va tv ea en ec TB 1 (TB++(nm++(⟨#[91]⟩++I++⟨#[93]⟩))++⟨#[32,58,61,32]⟩++V):=Or.inr (Or.inl ⟨c,I,V,rfl,rfl,h,hI,hV⟩)
theorem cas_call {w:World}{d:Nat}{nm:ByteArray}{ia va:Option Addr}{tv:Value}{ea:Option Addr}{en ec:Nat}{TB:ByteArray}{V:ByteArray}(hV:TxC w va V):Cas w d nm ia va tv ea en ec TB 6 (TB++V):=Or.inr (Or.inr (Or.inl ⟨V,rfl,rfl,hV⟩))
theorem cas_ret {w:World}{d:Nat}{nm:ByteArray}{ia va:Option Addr}{tv:Value}{ea:Option Addr}{en ec:Nat}{TB:ByteArray}{V:ByteArray}(hV:TxC w va V):Cas w d nm ia va tv ea en ec TB 4 (TB++⟨#[114,101,116,117,114,110,32]⟩++V):=Or.inr (Or.inr (Or.inr (Or.inl ⟨V,rfl,rfl,hV⟩)))
theorem cas_wri {w:World}{d:Nat}{nm:ByteArray}{ia va:Option Addr}{tv:Value}{ea:Option Addr}{en ec:Nat}{TB:ByteArray}{V:ByteArray}(hV:TxC w va V):Cas w d nm ia va tv ea en ec TB 5 (TB++⟨#[119,114,105,116,101,32]⟩++V):=Or.inr (Or.inr (Or.inr (Or.inr (Or.inl ⟨V,rfl,rfl,hV⟩))))
theorem cas_whi {w:World}{d:Nat}{nm:ByteArray}{ia va:Option Addr}{tv:Value}{ea:Option Addr}{en ec:Nat}{TB:ByteArray}{V B:ByteArray}(hV:TxC w va V) (hB:StC w tv d B):Cas w d nm ia va tv ea en ec TB 3 (TB++⟨#[119,104,105,108,101,32]⟩++V++⟨#[32,100,111,10]⟩++B++TB++⟨#[101,110,100]⟩):=Or.inr (Or.inr (Or.inr (Or.inr (Or.inr (Or.inl ⟨V,B,rfl,rfl,hV,hB⟩)))))
theorem cas_if0 {w:World}{d:Nat}{nm:ByteArray}{ia va:Option Addr}{tv:Value}{ea:Option Addr}{en ec:Nat}{TB:ByteArray}{V B:ByteArray}(hV:TxC w va V) (hB:StC w tv d B) (h:en=0):Cas w d nm ia va tv ea en ec TB 2 ((TB++⟨#[105,102,32]⟩++V++⟨#[32,116,104,101,110,10]⟩++B)++(TB++⟨#[101,110,100]⟩)):=Or.inr (Or.inr (Or.inr (Or.inr (Or.inr (Or.inr (Or.inl ⟨V,B,rfl,rfl,hV,hB,h⟩))))))
theorem cas_if1 {w:World}{d:Nat}{nm:ByteArray}{ia va:Option Addr}{tv:Value}{ea:Option Addr}{en ec:Nat}{TB:ByteArray}{V B L:ByteArray}(hV:TxC w va V) (hB:StC w tv d B) (h:0<en) (hL:StC w (.slice ea en ec) d L):Cas w d nm ia va tv ea en ec TB 2 ((TB++⟨#[105,102,32]⟩++V++⟨#[32,116,104,101,110,10]⟩++B)++(TB++⟨#[101,108,115,101,10]⟩++L)++(TB++⟨#[101,110,100]⟩)):=Or.inr (Or.inr (Or.inr (Or.inr (Or.inr (Or.inr (Or.inr ⟨V,B,L,rfl,rfl,hV,hB,h,hL⟩))))))
theorem nc1:((1:Nat):Int)=1:=rfl
theorem nc2:((2:Nat):Int)=2:=rfl
theorem nc3:((3:Nat):Int)=3:=rfl
theorem nc4:((4:Nat):Int)=4:=rfl
theorem nc5:((5:Nat):Int)=5:=rfl
theorem nc6:((6:Nat):Int)=6:=rfl
theorem fl_t (d:Nat):(Tp.tab d).flatten=tabT d:=rfl
set_option linter.unusedSimpArgs false
theorem cas_of {N:Nat}(hN:StsC N) {s:S}(hs:SizeOf.sizeOf s.thn<=N/\SizeOf.sizeOf s.els<=N) (hw:Tp.WS [s]) {d:Nat}(hd:d+Tp.DS [s]<=11) {w:World}{D:Nat->Prop}{ia va ta ea:Option Addr}{tc ec:Nat}{ls vs tcs ecs:List Value}
  (h1:RepL w D s.index ls) (h3:RepL w D s.value vs) (h5:RepS w D s.thn tcs) (h6:OwnS w D (.slice ta s.thn.length tc) s.thn.length tcs) (h7:RepS w D s.els ecs) (h8:OwnS w D (.slice ea s.els.length ec) s.els.length ecs)
  (e1:ls.headD (.pointer none)=.pointer ia) (e2:vs.headD (.pointer none)=.pointer va) (hg:Gw w) (hl:(Tp.ps1 s d).flatten.length<=1000000000) :
  ∃ T,bs (Tp.ps1 s d).flatten=T++⟨#[59,10]⟩/\Cas w d (bs s.name) ia va (.slice ta s.thn.length tc) ea s.els.length ec (bs (tabT d)) (s.code:Int) T:=by
 obtain⟨code,pos,nm,ix,v,th,el⟩:=s
 rw[Tp.WS]at hw
 rw[Tp.DS1]at hd
 simp only at hs hd h1 h3 h5 h6 h7 h8 ⊢
 have hv:Tp.ev v:=by rcases hw.1 with h|h|h|h|h <;> first|exact h.2.2.2.1|exact h.2.2.2.2.1
 obtain⟨z,rfl⟩:=Tp.len1 hv.2.1
 obtain⟨c,hc⟩:=h3.single
 obtain rfl:=headD_one hc e2
 subst hc
 have hV:(Tp.pxs [z]).flatten.length<=1000000000->TxC w (some ⟨c,0,none⟩) (bs (Tp.pxs [z]).flatten):=txC_of hv.1 h3 hg
 rcases hw.1 with⟨rfl,a1,a2,a3,rfl,rfl⟩|⟨rfl,rfl,rfl,a3,a4,a5⟩|⟨rfl,rfl,rfl,a3,a4,rfl⟩|⟨hc,rfl,rfl,a3,rfl,rfl⟩|⟨rfl,rfl,rfl,a3,a4,rfl,rfl⟩
 ·rcases a2 with rfl|⟨x1,x2,_⟩
  ·have e:(Tp.ps1 ⟨1,pos,nm,[],[z],[],[]⟩ d).flatten=tabT d++nm++[32,58,61,32]++(Tp.pxs [z]).flatten++[59,10]:=by
    rw[Tp.ps1_1];simp[fl_t,Tp.sp,Tp.mSet,Tp.mSemi,Tp.nl]
   rw[e]at hl ⊢
   simp only [List.length_append]at hl
   have hi:ia=none:=by
    have:ls=[]:=by
     have:=RepL.len _ _ h1
     exact List.eq_nil_of_length_eq_zero (by simpa using this)
    subst this
    simpa using e1.symm
   exact⟨bs (tabT d)++bs nm++⟨#[32,58,61,32]⟩++bs (Tp.pxs [z]).flatten,by simp only [yc,b_set,b_lb,b_rb,b_if,b_then,b_end,b_else,b_while,b_do,b_ret,b_wri,b_sem],by rw[nc1];exact cas_set0 hi (hV (by omega))⟩
  ·obtain⟨y,rfl⟩:=Tp.len1 x2
   obtain⟨c',hc'⟩:=h1.single
   obtain rfl:=headD_one hc' e1
   subst hc'
   have e:(Tp.ps1 ⟨1,pos,nm,[y],[z],[],[]⟩ d).flatten=tabT d++(nm++([91]++(Tp.pxs [y]).flatten++[93]))++[32,58,61,32]++(Tp.pxs [z]).flatten++[59,10]:=by
    rw[Tp.ps1_1];simp[fl_t,Tp.sp,Tp.mSet,Tp.mSemi,Tp.nl,Tp.mLb,Tp.mRb]
   rw[e]at hl ⊢
   simp only [List.length_append]at hl
   exact⟨bs (tabT d)++(bs nm++(⟨#[91]⟩++bs (Tp.pxs [y]).flatten++⟨#[93]⟩))++⟨#[32,58,61,32]⟩++bs (Tp.pxs [z]).flatten,by simp only [yc,b_set,b_lb,b_rb,b_if,b_then,b_end,b_else,b_while,b_do,b_ret,b_wri,b_sem],by rw[nc1];exact cas_set1 rfl (txC_of x1 h1 hg (by omega)) (hV (by omega))⟩
 ·have hd2:d+1+Tp.DS th<=11/\d+1+Tp.DS el<=11:=by simp at hd;omega
  by_cases hel:el=[]
  ·subst hel
   have e:(Tp.ps1 ⟨2,pos,[],[],[z],th,[]⟩ d).flatten=(tabT d++[105,102,32]++(Tp.pxs [z]).flatten++[32,116,104,101,110,10]++(Tp.psts th (d+1)).flatten)++(tabT d++[101,110,100])++[59,10]:=by
    rw[Tp.ps1_2];simp[fl_t,Tp.sp,Tp.mSemi,Tp.nl,Tp.wIf,Tp.wThen,Tp.wEnd]
   rw[e]at hl ⊢
   simp only [List.length_append]at hl
   exact⟨(bs (tabT d)++⟨#[105,102,32]⟩++bs (Tp.pxs [z]).flatten++⟨#[32,116,104,101,110,10]⟩++bs (Tp.psts th (d+1)).flatten)++(bs (tabT d)++⟨#[101,110,100]⟩),by simp only [yc,b_set,b_lb,b_rb,b_if,b_then,b_end,b_else,b_while,b_do,b_ret,b_wri,b_sem],
    by rw[nc2];exact cas_if0 (hV (by omega)) (stC_of hN hs.1 a4 hd2.1 h5 h6 hg (by omega)) rfl⟩
  ·have e:(Tp.ps1 ⟨2,pos,[],[],[z],th,el⟩ d).flatten=(tabT d++[105,102,32]++(Tp.pxs [z]).flatten++[32,116,104,101,110,10]++(Tp.psts th (d+1)).flatten)++(tabT d++[101,108,115,101,10]++(Tp.psts el (d+1)).flatten)++(tabT d++[101,110,100])++[59,10]:=by
    rw[Tp.ps1_2];simp[hel,fl_t,Tp.sp,Tp.mSemi,Tp.nl,Tp.wIf,Tp.wThen,Tp.wEnd,Tp.wElse]
   rw[e]at hl ⊢
   simp only [List.length_append]at hl
   exact⟨(bs (tabT d)++⟨#[105,102,32]⟩++bs (Tp.pxs [z]).flatten++⟨#[32,116,104,101,110,10]⟩++bs (Tp.psts th (d+1)).flatten)++(bs (tabT d)++⟨#[101,108,115,101,10]⟩++bs (Tp.psts el (d+1)).flatten)++(bs (tabT d)++⟨#[101,110,100]⟩),by simp only [yc,b_set,b_lb,b_rb,b_if,b_then,b_end,b_else,b_while,b_do,b_ret,b_wri,b_sem],
    by rw[nc2];exact cas_if1 (hV (by omega)) (stC_of hN hs.1 a4 hd2.1 h5 h6 hg (by omega)) (List.length_pos_iff.2 hel) (stC_of hN hs.2 a5 hd2.2 h7 h8 hg (by omega))⟩
 ·have hd2:d+1+Tp.DS th<=11:=by simp at hd;omega
  have e:(Tp.ps1 ⟨3,pos,[],[],[z],th,[]⟩ d).flatten=tabT d++[119,104,105,108,101,32]++(Tp.pxs [z]).flatten++[32,100,111,10]++(Tp.psts th (d+1)).flatten++tabT d++[101,110,100]++[59,10]:=by
   rw[Tp.ps1_3];simp[fl_t,Tp.sp,Tp.mSemi,Tp.nl,Tp.wWhile,Tp.wDo,Tp.wEnd]
  rw[e]at hl ⊢
  simp only [List.length_append]at hl
  exact⟨bs (tabT d)++⟨#[119,104,105,108,101,32]⟩++bs (Tp.pxs [z]).flatten++⟨#[32,100,111,10]⟩++bs (Tp.psts th (d+1)).flatten++bs (tabT d)++⟨#[101,110,100]⟩,by simp only [yc,b_set,b_lb,b_rb,b_if,b_then,b_end,b_else,b_while,b_do,b_ret,b_wri,b_sem],
   by rw[nc3];exact cas_whi (hV (by omega)) (stC_of hN hs.1 a4 hd2 h5 h6 hg (by omega))⟩
 ·rcases hc with rfl|rfl
  ·have e:(Tp.ps1 ⟨4,pos,[],[],[z],[],[]⟩ d).flatten=tabT d++[114,101,116,117,114,110,32]++(Tp.pxs [z]).flatten++[59,10]:=by
    rw[Tp.ps1_4];simp[fl_t,Tp.sp,Tp.mSemi,Tp.nl,Tp.wReturn]
   rw[e]at hl ⊢
   simp only [List.length_append]at hl
   exact⟨bs (tabT d)++⟨#[114,101,116,117,114,110,32]⟩++bs (Tp.pxs [z]).flatten,by simp only [yc,b_set,b_lb,b_rb,b_if,b_then,b_end,b_else,b_while,b_do,b_ret,b_wri,b_sem],by rw[nc4];exact cas_ret (hV (by omega))⟩
  ·have e:(Tp.ps1 ⟨5,pos,[],[],[z],[],[]⟩ d).flatten=tabT d++[119,114,105,116,101,32]++(Tp.pxs [z]).flatten++[59,10]:=by
    rw[Tp.ps1_5];simp[fl_t,Tp.sp,Tp.mSemi,Tp.nl,Tp.wWrite]
   rw[e]at hl ⊢
   simp only [List.length_append]at hl
   exact⟨bs (tabT d)++⟨#[119,114,105,116,101,32]⟩++bs (Tp.pxs [z]).flatten,by simp only [yc,b_set,b_lb,b_rb,b_if,b_then,b_end,b_else,b_while,b_do,b_ret,b_wri,b_sem],by rw[nc5];exact cas_wri (hV (by omega))⟩
 ·have e:(Tp.ps1 ⟨6,pos,[],[],[z],[],[]⟩ d).flatten=tabT d++(Tp.pxs [z]).flatten++[59,10]:=by
   rw[Tp.ps1_6];simp[fl_t,Tp.mSemi,Tp.nl]
  rw[e]at hl ⊢
  simp only [List.length_append]at hl
  exact⟨bs (tabT d)++bs (Tp.pxs [z]).flatten,by simp only [yc,b_set,b_lb,b_rb,b_if,b_then,b_end,b_else,b_while,b_do,b_ret,b_wri,b_sem],by rw[nc6];exact cas_call (hV (by omega))⟩
def headT (x:ByteArray):ByteArray:=bs (x.data.toList.take (x.data.toList.length - 2))
theorem headT_app (T:ByteArray):headT (T++⟨#[59,10]⟩)=T:=by
 unfold headT
 cases T
 simp[bs]
theorem sts_all:∀ N,StsC N:=by
 intro N
 induction N with
 | zero=>intro l h;cases l <;> simp at h <;> omega
 | succ N ih =>
  intro l hs hw d hd w D v cs hr ho hg hl
  obtain⟨hlong,aa,ac,rfl⟩:=ho.long
  have key:∀ i (h:i<l.length),∃ T,bs (Tp.ps1 l[i] d).flatten=T++⟨#[59,10]⟩/\StP w aa d (bs (tabT d)) i T:=fun i h=>by
   obtain⟨tv,ev,ls,vs,tcs,ecs,q0,q1,q2,q3,q4,q5,q6,q7,q8⟩:=RepS.nth l cs hr i h
   obtain⟨g,g1,g2,g3⟩:=ho.at' i h
   obtain⟨t0,ta,tc,rfl⟩:=q6.long
   obtain⟨e0,ea,ec,rfl⟩:=q8.long
   obtain⟨ia,e1⟩:=q1.headP
   obtain⟨va,e2⟩:=q3.headP
   have hsz:=sizeS_nth l i h
   have hsz2:SizeOf.sizeOf l[i].thn<SizeOf.sizeOf l[i]/\SizeOf.sizeOf l[i].els<SizeOf.sizeOf l[i]:=by
    generalize l[i]=s
    obtain⟨⟩:=s
    simp only [S.mk.sizeOf_spec]
    omega
   have hdn:=DS_nth l i h
   have hle:=accT_le l d (i+1)
   rw[accT_succ h,List.length_append]at hle
   obtain⟨T,hT1,hT2⟩:=cas_of ih (s:=l[i]) (d:=d) ⟨by omega,by omega⟩ (WS_nth l hw i h) (by omega) q1 q3 q5 q6 q7 q8 e1 e2 hg (by omega)
   refine⟨T,hT1,g,_,(l[i].pos:Int),_,ia,va,ta,ea,_,tc,_,ec,g1,g2,e0,fun j hj=>?_,hT2⟩
   rw[g3 j hj,q0 j hj,e1,e2]
  have hfi:∀ i (h:i<l.length),bs (Tp.ps1 l[i] d).flatten=headT (bs (Tp.ps1 l[i] d).flatten)++⟨#[59,10]⟩:=fun i h=>by
   obtain⟨T,hT,_⟩:=key i h
   rw[hT,headT_app]
  have:=stmtsText_row (w:=w) (aa:=aa) (an:=l.length) (ac:=ac) (d:=d) hlong (by omega) (fun i=>if h:i<l.length then headT (bs (Tp.ps1 l[i] d).flatten) else ⟨#[]⟩) (fun i=>bs (accT l d i)) (by simp[accT,Tp.psts,Tp.pst,bs])
   (fun i h=>by simp only [dif_pos h];rw[accT_succ h,yc,ByteArray.append_assoc,<-hfi i h])
   (fun i _=>by rw[yA];have:=accT_le l d i;omega)
   (fun i h=>by
    obtain⟨T,hT,hP⟩:=key i h
    simp only [dif_pos h]
    rw[hT,headT_app]
    exact hP)
  refine this.mono ?_
  rintro e w' ⟨rfl,hb⟩
  refine⟨?_,hb⟩
  simp only [accT,List.take_length]
end Go.Proofs.YthnoedjbhbkdeaaGreatDoor
namespace Go.Proofs.YthnoedjbhbkdeaaGreatDoor
open Go.RowKit Go.Sort
open Tp (X S G Pr)
theorem c_76617220:bs [118,97,114,32]=⟨#[118,97,114,32]⟩:=rfl
theorem c_3a20:bs [58,32]=⟨#[58,32]⟩:=rfl
theorem c_696e743b0a:bs [105,110,116,59,10]=⟨#[105,110,116,59,10]⟩:=rfl
theorem c_617272617920:bs [97,114,114,97,121,32]=⟨#[97,114,114,97,121,32]⟩:=rfl
theorem c_3b0a:bs [59,10]=⟨#[59,10]⟩:=rfl
theorem c_70726f6320:bs [112,114,111,99,32]=⟨#[112,114,111,99,32]⟩:=rfl
theorem c_28:bs [40]=⟨#[40]⟩:=rfl
theorem c_293b0a:bs [41,59,10]=⟨#[41,59,10]⟩:=rfl
theorem c_626567696e0a:bs [98,101,103,105,110,10]=⟨#[98,101,103,105,110,10]⟩:=rfl
theorem c_656e643b0a:bs [101,110,100,59,10]=⟨#[101,110,100,59,10]⟩:=rfl
theorem c_656e642e0a:bs [101,110,100,46,10]=⟨#[101,110,100,46,10]⟩:=rfl
theorem c_6d6f64756c6520:bs [109,111,100,117,108,101,32]=⟨#[109,111,100,117,108,101,32]⟩:=rfl
theorem c_696d706f727420:bs [105,109,112,111,114,116,32]=⟨#[105,109,112,111,114,116,32]⟩:=rfl
theorem stB_eq (x:Bool):bs (Tp.star x).flatten=stB x:=rfl
set_option linter.unusedSimpArgs false
theorem pg_bs (g:G):bs (Tp.pg g).flatten=(⟨#[118,97,114,32]⟩++bs g.name++stB g.seen++⟨#[58,32]⟩)++(if g.len=0 then ⟨#[105,110,116,59,10]⟩ else ⟨#[97,114,114,97,121,32]⟩++bs (Tp.dec g.len)++⟨#[59,10]⟩):=by
 by_cases h:g.len=0
 ·have e:(Tp.pg g).flatten=([118,97,114,32]++g.name++(Tp.star g.seen).flatten++[58,32])++[105,110,116,59,10]:=by
   unfold Tp.pg
   rw[if_pos h]
   simp[Tp.wVar,Tp.sp,Tp.mColon,Tp.wInt,Tp.mSemi,Tp.nl]
  rw[e,if_pos h]
  simp only [yc,stB_eq,c_76617220,c_3a20,c_696e743b0a,c_617272617920,c_3b0a,c_70726f6320,c_28,c_293b0a,c_626567696e0a,c_656e643b0a,c_656e642e0a,c_6d6f64756c6520,c_696d706f727420]
 ·have e:(Tp.pg g).flatten=([118,97,114,32]++g.name++(Tp.star g.seen).flatten++[58,32])++([97,114,114,97,121,32]++Tp.dec g.len++[59,10]):=by
   unfold Tp.pg
   rw[if_neg h]
   simp[Tp.wVar,Tp.sp,Tp.mColon,Tp.wArray,Tp.mSemi,Tp.nl]
  rw[e,if_neg h]
  simp only [yc,stB_eq,c_76617220,c_3a20,c_696e743b0a,c_617272617920,c_3b0a,c_70726f6320,c_28,c_293b0a,c_626567696e0a,c_656e643b0a,c_656e642e0a,c_6d6f64756c6520,c_696d706f727420]
def nmsT (l:List (List UInt8)):List UInt8:=(Tp.pnames l).flatten
theorem pp_fl (p:Pr):(Tp.pp p).flatten=([112,114,111,99,32]++p.name++(Tp.star p.seen).flatten++[40]++nmsT p.params++[41,59,10])++(if p.vars=[] then [] else [118,97,114,32]++nmsT p.vars++[59,10])++([98,101,103,105,110,10]++(Tp.psts p.body 1).flatten++[101,110,100,59,10]):=by
 unfold Tp.pp nmsT
 by_cases h:p.vars=[]
 ·rw[if_pos h,if_pos h]
  simp[Tp.wProc,Tp.sp,Tp.mLp,Tp.mRp,Tp.mSemi,Tp.nl,Tp.wBegin,Tp.wEnd]
 ·rw[if_neg h,if_neg h]
  simp[Tp.wProc,Tp.sp,Tp.mLp,Tp.mRp,Tp.mSemi,Tp.nl,Tp.wBegin,Tp.wEnd,Tp.wVar]
theorem pp_bs (p:Pr):bs (Tp.pp p).flatten=(⟨#[112,114,111,99,32]⟩++bs p.name++stB p.seen++⟨#[40]⟩++bs (nmsT p.params)++⟨#[41,59,10]⟩)++(if p.vars.length=0 then ⟨#[]⟩ else ⟨#[118,97,114,32]⟩++bs (nmsT p.vars)++⟨#[59,10]⟩)++(⟨#[98,101,103,105,110,10]⟩++bs (Tp.psts p.body 1).flatten++⟨#[101,110,100,59,10]⟩):=by
 rw[pp_fl]
 by_cases h:p.vars=[]
 ·rw[if_pos h,if_pos (by rw[h];rfl)]
  simp only [yc,stB_eq,c_76617220,c_3a20,c_696e743b0a,c_617272617920,c_3b0a,c_70726f6320,c_28,c_293b0a,c_626567696e0a,c_656e643b0a,c_656e642e0a,c_6d6f64756c6520,c_696d706f727420]
  rfl
 ·rw[if_neg h,if_neg (fun e=>h (List.eq_nil_of_length_eq_zero e))]
  simp only [yc,stB_eq,c_76617220,c_3a20,c_696e743b0a,c_617272617920,c_3b0a,c_70726f6320,c_28,c_293b0a,c_626567696e0a,c_656e643b0a,c_656e642e0a,c_6d6f64756c6520,c_696d706f727420]
theorem row_stp {w w':World}{D:Nat->Prop}{e size n:Nat}{v:Value}{cs:List Value}(h:Row w D e size v n cs) (k:Below w.heap.size w w'):Row w' (fun i=>i<w'.heap.size) e size v n cs:=h.mono fun b _ hl=>⟨k.block b hl,Nat.lt_of_lt_of_le hl k.size⟩
theorem rprint_post {m:Tp.M}(hm:Tp.WM m) {w:World}{ia ga pa ba:Option Addr}{ic gc pc bc:Nat}(h:MB w w.heap.size m ia ga pa ba ic gc pc bc) (hg:Gw w) (hl:(Tp.print m).length<=1000000000) :
  Calls Tryz.prog 11 #[.agg (mcells (bs m.name) (.slice ia m.imports.length ic) (.slice ga m.vars.length gc) (.slice pa m.procs.length pc) (.slice ba m.body.length bc))] w fun e w'=>e=.returned (.string (bs (Tp.print m)))/\Below w.heap.size w w':=by
 obtain⟨nm,is,gs,ps,body⟩:=m
 obtain⟨pcs,p1,p2⟩:=h.pr
 obtain⟨bcs,b1,b2⟩:=h.bd
 have hgl:=h.gl
 have him:=h.im
 simp only at hgl him p1 p2 b1 b2 ⊢
 have hgc:=hm.gc
 have hpc:=hm.pc
 have hic:=hm.ic
 simp only at hgc hpc hic
 obtain⟨m2,hm2⟩:∃ m2,m2=[109,111,100,117,108,101,32]++nm++[59,10]++(if is=[] then [] else [105,109,112,111,114,116,32]++nmsT is++[59,10]):=⟨_,rfl⟩
 obtain⟨mg,hmg⟩:∃ mg:Nat->List UInt8,mg=fun i=>m2++((gs.take i).map Tp.pg).flatten.flatten:=⟨_,rfl⟩
 obtain⟨mp,hmp⟩:∃ mp:Nat->List UInt8,mp=fun i=>mg gs.length++((ps.take i).map Tp.pp).flatten.flatten:=⟨_,rfl⟩
 have hgn:mg gs.length=m2++(gs.map Tp.pg).flatten.flatten:=by rw[hmg];simp
 have hpn:mp ps.length=mg gs.length++(ps.map Tp.pp).flatten.flatten:=by rw[hmp];simp
 have e1:Tp.print ⟨nm,is,gs,ps,body⟩=mp ps.length++[98,101,103,105,110,10]++(Tp.psts body 1).flatten++[101,110,100,46,10]:=by
  rw[hpn,hgn,hm2]
  unfold Tp.print Tp.pm nmsT
  by_cases hi:is=[] <;> simp[hi,Tp.wModule,Tp.sp,Tp.mSemi,Tp.nl,Tp.wImport,Tp.wBegin,Tp.wEnd,Tp.mDot]
 rw[e1]at hl ⊢
 simp only [List.length_append]at hl
 have g2:∀ i,(mg i).length<=(mg gs.length).length:=by
  intro i;rw[hgn,hmg];simp only [List.length_append];have:=yO Tp.pg gs i;omega
 have g3:∀ i,(mp i).length<=(mp ps.length).length:=by
  intro i;rw[hpn,hmp];simp only [List.length_append];have:=yO Tp.pp ps i;omega
 have g3':(mg gs.length).length<=(mp ps.length).length:=by rw[hpn];simp
 have g4:m2.length<=(mg gs.length).length:=by rw[hgn];simp
 have hg0:mg 0=m2:=by rw[hmg];simp
 have hp0:mp 0=mg gs.length:=by rw[hmp];simp
 have eR:bs (mp ps.length++[98,101,103,105,110,10]++(Tp.psts body 1).flatten++[101,110,100,46,10])=bs (mp ps.length)++⟨#[98,101,103,105,110,10]⟩++bs (Tp.psts body 1).flatten++⟨#[101,110,100,46,10]⟩:=by
  simp only [yc,c_76617220,c_3a20,c_696e743b0a,c_617272617920,c_3b0a,c_70726f6320,c_28,c_293b0a,c_626567696e0a,c_656e643b0a,c_656e642e0a,c_6d6f64756c6520,c_696d706f727420]
 rw[eR]
 have hnl:(if is=[] then ([]:List UInt8) else nmsT is).length<=m2.length:=by
  rw[hm2]
  split
  ·simp
  ·simp only [List.length_append];omega
 refine rprint_row (mn:=bs nm) (J:=bs (nmsT is)) (B:=bs (Tp.psts body 1).flatten) (by omega) (by omega) (by omega) (fun i=>bs (mg i)) (fun i=>bs (mp i)) ?_ ?_ ?_ (by rw[hp0]) ?_ ?_ (fun i _=>by rw[yA];have:=g2 i;omega) (fun i _=>by rw[yA];have:=g3 i;omega) (by rw[yA];omega)
 ·intro W hW
  refine yL (row_stp him hW) ?_ (by omega)
  by_cases hi:is=[]
  ·subst hi;simp[Tp.pnames,Tp.commas]
  ·rw[if_neg hi]at hnl
   unfold nmsT at hnl
   omega
 ·rw[hg0,hm2]
  by_cases hi:is=[]
  ·subst hi
   rw[if_pos rfl,if_pos List.length_nil]
   simp only [yc,c_76617220,c_3a20,c_696e743b0a,c_617272617920,c_3b0a,c_70726f6320,c_28,c_293b0a,c_626567696e0a,c_656e643b0a,c_656e642e0a,c_6d6f64756c6520,c_696d706f727420]
   rfl
  ·rw[if_neg hi,if_neg (fun e=>hi (List.eq_nil_of_length_eq_zero e))]
   simp only [yc,c_76617220,c_3a20,c_696e743b0a,c_617272617920,c_3b0a,c_70726f6320,c_28,c_293b0a,c_626567696e0a,c_656e643b0a,c_656e642e0a,c_6d6f64756c6520,c_696d706f727420]
 ·intro i hi
  obtain⟨g,cap,q1,q2,q3,q4⟩:=ju hgl (by omega)
  cases q1
  have hc:=fun j (hj:j<4)=>(q4 (i * 4+j) (by omega)).trans (gcs_get gs i hi j hj)
  have hlen:=(hm.g _ (List.getElem_mem hi)).l
  refine⟨g,bs gs[i].name,(gs[i].pos:Int),gs[i].len,gs[i].seen,rfl,q3,hc,by omega,?_⟩
  have e:mg (i+1)=mg i++(Tp.pg gs[i]).flatten:=by rw[hmg];simp only [yB Tp.pg gs i hi,List.append_assoc]
  rw[e,yc,pg_bs]
  simp only [ByteArray.append_assoc]
 ·intro i hi
  obtain⟨g,cap,q1,q2,q3,q4⟩:=ju p2 (by omega)
  cases q1
  obtain⟨pv,vv,bv,bcs',r1,r2,r3,r4,r5⟩:=repp_get ps pcs p1 i hi
  have hc:=fun j (hj:j<6)=>(q4 (i * 6+j) (by omega)).trans (r1 j hj)
  obtain⟨pa',pc',rfl⟩:=r2.shape
  obtain⟨va',vc',rfl⟩:=r3.shape
  obtain⟨_,ba',bc',rfl⟩:=r5.long
  have hwp:=hm.p _ (List.getElem_mem hi)
  have hcc:=hwp.c
  have e:mp (i+1)=mp i++(Tp.pp ps[i]).flatten:=by rw[hmp];simp only [yB Tp.pp ps i hi,List.append_assoc]
  have hlp:(mp i).length+(Tp.pp ps[i]).flatten.length<=1000000000:=by
   have:=g3 (i+1)
   rw[e,List.length_append]at this
   omega
  rw[pp_fl]at hlp
  simp only [List.length_append]at hlp
  refine⟨g,bs ps[i].name,(ps[i].pos:Int),ps[i].seen,pa',va',ba',ps[i].params.length,pc',ps[i].vars.length,vc',ps[i].body.length,bc',bs (nmsT ps[i].params),bs (nmsT ps[i].vars),bs (Tp.psts ps[i].body 1).flatten,rfl,q3,hc,by omega,?_,?_,?_,?_⟩
  ·intro W hW
   exact yL (row_stp r2 hW) (by show (nmsT ps[i].params).length<=_;omega) (by omega)
  ·intro W hW
   refine yL (row_stp r3 hW) ?_ (by omega)
   show (nmsT ps[i].vars).length<=_
   by_cases hi:ps[i].vars=[]
   ·rw[hi];simp[nmsT,Tp.pnames,Tp.commas]
   ·rw[if_neg hi]at hlp
    simp only [List.length_append]at hlp
    omega
  ·intro W hW
   exact sts_all _ _ zn hwp.b 1 (by have:=hwp.d;omega) W _ _ _ (r4.step' hW) (r5.step' hW) (hg.below hW) (by omega)
  ·rw[e,yc,pp_bs]
   simp only [ByteArray.append_assoc]
 ·intro W hW
  have hd:=hm.d
  simp only at hd
  exact sts_all _ body zn hm.b 1 (by omega) W _ _ _ (b1.step' hW) (b2.step' hW) (hg.below hW) (by omega)
end Go.Proofs.YthnoedjbhbkdeaaGreatDoor
namespace Go.Proofs.YthnoedjbhbkdeaaGreatDoor
open Go.RowKit Go.Sort
open Tp (X S)
theorem ttext_post {y:X}(hw:Tp.WX [y]) {w:World}{b:Nat}(hx:Ex1 w w.heap.size y b) (hr:Wr w.heap.size w) (hl:(Tp.pxs [y]).flatten.length<=1000000000) :
  Calls Tryz.prog 52 #[.pointer (some ⟨b,0,none⟩)] w fun e w'=>e=.returned (.string (bs (Tp.pxs [y]).flatten))/\Below w.heap.size w w':=by
 have HC:=zh (ys (kk:=fun _=>False) _ y zn hw w w.heap.size b (.slice none 0 0) [] hx (Buf.nil _ _ zn (fun k hk=>hk.elim)) hr (by simpa using hl))
 rw[List.nil_append]at HC
 generalize (Tp.pxs [y]).flatten=pt at *
 clear hx hr hl hw
 go_enter Tryz.func52,Tryz.ntmps52
 go_wp2_with fail
 refine HC.out.mono ?_
 rintro e w2 ⟨v2,rfl,hbuf2,hbel2⟩
 have hcv:=conv_buf hbuf2
 have HB:=zh hbel2.toBelow
 clear hbuf2 hbel2 HC
 go_wp2_with fail
 go_ret
 exact⟨rfl,HB.out⟩
def EPr (w:World) (aa a2:Option Addr) (i:Nat):Prop:=∃(g g2 c c2:Nat) (ta ea ta2 ea2:Option Addr) (tn tc en ec tc2 ec2:Nat) (V:ByteArray),aa=some ⟨g,0,none⟩/\a2=some ⟨g2,0,none⟩/\g<w.heap.size/\g2<w.heap.size /\
 (w.cell? ⟨g,i * 7+4,none⟩=some (.pointer (some ⟨c,0,none⟩))/\w.cell? ⟨g,i * 7+5,none⟩=some (.slice ta tn tc)/\w.cell? ⟨g,i * 7+6,none⟩=some (.slice ea en ec)) /\
 (w.cell? ⟨g2,i * 7+4,none⟩=some (.pointer (some ⟨c2,0,none⟩))/\w.cell? ⟨g2,i * 7+5,none⟩=some (.slice ta2 tn tc2)/\w.cell? ⟨g2,i * 7+6,none⟩=some (.slice ea2 en ec2)) /\
 ∀ W,Below w.heap.size w W->Calls Tryz.prog 52 #[.pointer (some ⟨c,0,none⟩)] W (fun e w'=>e=.returned (.string V)/\Below W.heap.size W w')/\Calls Tryz.prog 53 #[.pointer (some ⟨c2,0,none⟩)] W (fun e w'=>e=.returned (.string V)/\Below W.heap.size W w') /\
  Calls Tryz.prog 12 #[.slice ta tn tc,.slice ta2 tn tc2] W (fun e w'=>e=.returned (.bool true)/\Below W.heap.size W w')/\Calls Tryz.prog 12 #[.slice ea en ec,.slice ea2 en ec2] W (fun e w'=>e=.returned (.bool true)/\Below W.heap.size W w')
theorem exprs_row {w:World}{aa a2:Option Addr}{an ac c2:Nat}(han:an<=9223372036854775807) (hP:∀ i,i<an->EPr w aa a2 i) :
  Calls Tryz.prog 12 #[.slice aa an ac,.slice a2 an c2] w fun e w'=>e=.returned (.bool true)/\Below w.heap.size w w':=by
 have hn':(an:Int)<=9223372036854775807:=by omega
 have HP:=zh hP
 clear hP
 go_enter Tryz.func12,Tryz.ntmps12
 go_wp2_with fail
 go_loopg [5] an (fun k vi wr=>∃ i:Nat,i<=an/\k=an - i/\vi=.int .i64 (i:Int)/\Hid (Below w.heap.size w wr))
 case atStart=>exact⟨0,by omega,by omega,rfl,Below.refl _ _⟩
 case round =>
  obtain⟨i,hid,hk,rfl,HB⟩:=hrel
  by_cases hlt:i<an
  ·have hlt':(i:Int)<(an:Int):=by omega
   obtain⟨g,g2,c,c2,ta,ea,ta2,ea2,tn,tc,en,ec,tc2,ec2,V,rfl,rfl,hgl,hgl2,⟨x4,x5,x6⟩,⟨y4,y5,y6⟩,hC⟩:=HP.out i hlt
   have k4:=cell_regrown ((HB.out.cell (p:=⟨g,i * 7+4,none⟩) hgl).trans x4)
   have k5:=cell_regrown ((HB.out.cell (p:=⟨g,i * 7+5,none⟩) hgl).trans x5)
   have k6:=cell_regrown ((HB.out.cell (p:=⟨g,i * 7+6,none⟩) hgl).trans x6)
   have j4:=cell_regrown ((HB.out.cell (p:=⟨g2,i * 7+4,none⟩) hgl2).trans y4)
   have j5:=cell_regrown ((HB.out.cell (p:=⟨g2,i * 7+5,none⟩) hgl2).trans y5)
   have j6:=cell_regrown ((HB.out.cell (p:=⟨g2,i * 7+6,none⟩) hgl2).trans y6)
   have hrg:∀ d os,g<(grow (redrawn wr d) os).heap.size:=fun d os=>Nat.lt_of_lt_of_le hgl (Nat.le_trans HB.out.size (below_regrown wr d os).size)
   have hrg2:∀ d os,g2<(grow (redrawn wr d) os).heap.size:=fun d os=>Nat.lt_of_lt_of_le hgl2 (Nat.le_trans HB.out.size (below_regrown wr d os).size)
   have hb:=fun d os=>HB.out.trans ((below_regrown wr d os).mono HB.out.size)
   have cT:=fun d os=>Calls.regrown_of (hC _ (hb d os)).1
   have cR:=fun d os=>Calls.regrown_of (hC _ (hb d os)).2.1
   have cA:=fun d os=>Calls.regrown_of (hC _ (hb d os)).2.2.1
   have cE:=fun d os=>Calls.regrown_of (hC _ (hb d os)).2.2.2
   have HBB:=zh hb
   clear hb hC x4 x5 x6 y4 y5 y6 HP
   go_upto_region 4 with fail
   refine wp_region_quiet_below (by kernel_rfl) (by kernel_rfl) ?_
   repeat (quiet_step (first|(go_at_call 52;with_reducible exact cT _ _)|(go_at_call 53;with_reducible exact cR _ _)|(go_at_call 12;with_reducible exact cA _ _)|(go_at_call 12;with_reducible exact cE _ _)))
   refine wpQuiet_nil ?_
   intro _ hw'
   obtain⟨⟨dq,osq⟩,hw''⟩:=hw'
   subst hw''
   have HB2:=zh (HBB.out dq osq)
   clear cT cR cA cE k4 k5 k6 j4 j5 j6 hrg hrg2 HBB
   generalize grow (redrawn wr dq) osq=wq at *
   go_wp2_with fail
   go_roundg (an - (i+1))
   case measure=>omega
   case rel=>exact⟨i+1,by omega,rfl,by go_num,HB2⟩
  ·have hlt':¬(i:Int)<(an:Int):=by omega
   have he:i=an:=by omega
   subst he
   go_wp2_with fail
   go_ret
   exact⟨rfl,HB.out⟩
theorem wr_of {w:World}(hg:Gw w) (hlv:Lv w):Wr w.heap.size w:=⟨Lib.tabBelow_of_tabIs hg.tab,hlv,hlv.1⟩
theorem NS_nil:Tp.NS []=0:=by rw[Tp.NS]
theorem ws_ev {s:S}(h:Tp.WS [s]):Tp.ev s.value/\Tp.WS s.thn/\Tp.WS s.els/\Tp.NX s.value<=Tp.NS [s]/\Tp.NS s.thn<=Tp.NS [s]/\Tp.NS s.els<=Tp.NS [s]:=by
 rw[Tp.NS1]
 obtain⟨code,pos,nm,ix,v,th,el⟩:=s
 rw[Tp.WS]at h
 simp only
 have hel:Tp.NS el<=(if el.isEmpty=true then 0 else 1+Tp.NS el):=by
  cases el with
  | nil=>simp[NS_nil]
  | cons s l=>simp
 rcases h.1 with⟨rfl,_,_,a3,rfl,rfl⟩|⟨rfl,rfl,rfl,a3,a4,a5⟩|⟨rfl,rfl,rfl,a3,a4,rfl⟩|⟨hc,rfl,rfl,a3,rfl,rfl⟩|⟨rfl,rfl,rfl,a3,_,rfl,rfl⟩
 ·simp only [if_true,NS_nil]
  exact⟨a3,Tp.WS_nil,Tp.WS_nil,by omega,by omega,by omega⟩
 ·simp only [show ¬(2=1) by omega,if_false,if_true]
  exact⟨a3,a4,a5,by omega,by omega,by omega⟩
 ·simp only [show ¬(3=1) by omega,show ¬(3=2) by omega,if_false,if_true,NS_nil]
  exact⟨a3,a4,Tp.WS_nil,by omega,by omega,by omega⟩
 ·rcases hc with rfl|rfl
  ·simp only [show ¬(4=1) by omega,show ¬(4=2) by omega,show ¬(4=3) by omega,show ¬(4=6) by omega,if_false,NS_nil]
   exact⟨a3,Tp.WS_nil,Tp.WS_nil,by omega,by omega,by omega⟩
  ·simp only [show ¬(5=1) by omega,show ¬(5=2) by omega,show ¬(5=3) by omega,show ¬(5=6) by omega,if_false,NS_nil]
   exact⟨a3,Tp.WS_nil,Tp.WS_nil,by omega,by omega,by omega⟩
 ·simp only [show ¬(6=1) by omega,show ¬(6=2) by omega,show ¬(6=3) by omega,if_false,if_true,NS_nil]
  exact⟨a3,Tp.WS_nil,Tp.WS_nil,by omega,by omega,by omega⟩
theorem NS_nth:∀(l:List S) i (h:i<l.length),Tp.NS [l[i]]<=Tp.NS l:=by
 intro l
 induction l with
 | nil=>intro i h;simp at h
 | cons x l ih =>
  intro i h
  have e:=Tp.NS_cons x l
  cases i with
  | zero=>show Tp.NS [x]<=_;omega
  | succ i =>
   have hi:i<l.length:=by simpa using h
   have:=ih i hi
   show Tp.NS [l[i]'hi]<=_
   omega
theorem ex1_of {w w':World}{D:Nat->Prop}{y:X}{b:Nat}(h:RepL w D [y] [.pointer (some ⟨b,0,none⟩)]) (k:Below w.heap.size w w'):Ex1 w' w'.heap.size y b :=
 RepL.mono (fun b _ hl=>⟨k.block b hl,Nat.lt_of_lt_of_le hl k.size⟩) (SizeOf.sizeOf [y]) [y] _ zn h
theorem exprs_all:∀(N:Nat) (l:List S) (w:World) (D D2:Nat->Prop) (v u:Value) (cs us:List Value),SizeOf.sizeOf l<=N->Tp.WS l->Tp.NS l<=1000000->RepS w D l cs->OwnS w D v l.length cs->RepS w D2 l us->OwnS w D2 u l.length us->Gw w->Lv w ->
  Calls Tryz.prog 12 #[v,u] w fun e w'=>e=.returned (.bool true)/\Below w.heap.size w w':=by
 intro N
 induction N with
 | zero=>intro l w D D2 v u cs us hl;cases l <;> simp at hl <;> omega
 | succ N ih =>
  intro l w D D2 v u cs us hl hws hns h1 h2 k1 k2 hg hlv
  obtain⟨hlen,a,c,rfl⟩:=h2.long
  obtain⟨_,a2,c2,rfl⟩:=k2.long
  refine exprs_row hlen fun i hi=>?_
  obtain⟨tv,ev,ls,vs,tcs,ecs,p1,p2,_,p4,_,p6,p7,p8,p9⟩:=RepS.nth _ _ h1 i hi
  obtain⟨tv2,ev2,ls2,vs2,tcs2,ecs2,q1,q2,_,q4,_,q6,q7,q8,q9⟩:=RepS.nth _ _ k1 i hi
  obtain⟨g,rfl,hg1,hc⟩:=h2.at' i hi
  obtain⟨g2,rfl,hg2,hc2⟩:=k2.at' i hi
  obtain⟨w1,w2,w3,n1,n2,n3⟩:=ws_ev (WS_nth l hws i hi)
  have hn:=NS_nth l i hi
  obtain⟨z,hz⟩:=Tp.len1 w1.2.1
  rw[hz]at p4 q4 w1 n1
  obtain⟨cc,rfl⟩:=p4.single
  obtain⟨cc2,rfl⟩:=q4.single
  obtain⟨_,ta,tc,rfl⟩:=p7.long
  obtain⟨_,ea,ec,rfl⟩:=p9.long
  obtain⟨_,ta2,tc2,rfl⟩:=q7.long
  obtain⟨_,ea2,ec2,rfl⟩:=q9.long
  have hs1:SizeOf.sizeOf l[i]<SizeOf.sizeOf l:=List.sizeOf_lt_of_mem (List.getElem_mem hi)
  obtain⟨hs2,hs3⟩:=sizeS l[i]
  have hfl:=Tp.fl_ev w1
  have hfl':(Tp.pxs [z]).flatten.length<=1000000000:=by
   show Tp.fl (Tp.pxs [z])<=_
   omega
  refine⟨g,g2,cc,cc2,ta,ea,ta2,ea2,l[i].thn.length,tc,l[i].els.length,ec,tc2,ec2,bs (Tp.pxs [z]).flatten,rfl,rfl,hg1,hg2,⟨(hc 4 (by omega)).trans (p1 4 (by omega)),(hc 5 (by omega)).trans (p1 5 (by omega)),(hc 6 (by omega)).trans (p1 6 (by omega))⟩,⟨(hc2 4 (by omega)).trans (q1 4 (by omega)),(hc2 5 (by omega)).trans (q1 5 (by omega)),(hc2 6 (by omega)).trans (q1 6 (by omega))⟩,fun W hW=>⟨?_,?_,?_,?_⟩⟩
  ·exact ttext_post w1.1 (ex1_of p4 hW) (wr_of (hg.below hW) (hlv.below hW hlv.1)) hfl'
  ·exact text_all _ z zn w1.1 W D2 cc2 (q4.step' hW) (hg.below hW) hfl'
  ·exact ih l[i].thn W D D2 _ _ tcs tcs2 (by omega) w2 (by omega) (p6.step' hW) (p7.step' hW) (q6.step' hW) (q7.step' hW) (hg.below hW) (hlv.below hW hlv.1)
  ·exact ih l[i].els W D D2 _ _ ecs ecs2 (by omega) w3 (by omega) (p8.step' hW) (p9.step' hW) (q8.step' hW) (q9.step' hW) (hg.below hW) (hlv.below hW hlv.1)
end Go.Proofs.YthnoedjbhbkdeaaGreatDoor
namespace Go.Proofs.YthnoedjbhbkdeaaGreatDoor
open Go.RowKit Go.Sort
theorem prints_of {w:World}{B:Nat}{m:Tp.M}{v:Value}(hm:Tp.WM m) (hl:(Tp.print m).length<=1000000000) (h:VM B m v w) (hg:Gw w) (hlv:Lv w) :
  Calls Tryz.prog 10 #[v] w (fun e w'=>e=.returned (.string (bs (Tp.print m)))/\Below w.heap.size w w')/\Calls Tryz.prog 11 #[v] w (fun e w'=>e=.returned (.string (bs (Tp.print m)))/\Below w.heap.size w w'):=by
 obtain⟨ia,ga,pa,ba,ic,gc,pc,bc,rfl,hmb⟩:=h.mb
 exact⟨print_post hm hmb (wr_of hg hlv) hl,rprint_post hm hmb hg hl⟩
theorem exprs_of {w:World}{B B2:Nat}{m:Tp.M}{mn mn2:ByteArray}{ia ga qa sa ia2 ga2 qa2 sa2:Option Addr}{il ic gl gc ql qc sl sc il2 ic2 gl2 gc2 ql2 qc2 sl2 sc2:Nat}(hm:Tp.WM m) (hn:Tp.NS m.body<=1000000)
  (h:VM B m (.agg #[.string mn,.slice ia il ic,.slice ga gl gc,.slice qa ql qc,.slice sa sl sc]) w) (k:VM B2 m (.agg #[.string mn2,.slice ia2 il2 ic2,.slice ga2 gl2 gc2,.slice qa2 ql2 qc2,.slice sa2 sl2 sc2]) w) (hg:Gw w) (hlv:Lv w) :
  Calls Tryz.prog 12 #[.slice sa sl sc,.slice sa2 sl2 sc2] w fun e w'=>e=.returned (.bool true)/\Below w.heap.size w w':=by
 obtain⟨_,_,_,ba,_,_,_,bc,_,bcs,e,_,_,_,_,b1,b2⟩:=h
 obtain⟨_,_,_,ba',_,_,_,bc',_,bcs',e',_,_,_,_,b1',b2'⟩:=k
 have e1:(Value.slice sa sl sc)=.slice ba m.body.length bc:=by
  have:=congrArg (fun v=>match v with | .agg a=>a[4]?|_=>none) e
  simpa[mcells] using this
 have e2:(Value.slice sa2 sl2 sc2)=.slice ba' m.body.length bc':=by
  have:=congrArg (fun v=>match v with | .agg a=>a[4]?|_=>none) e'
  simpa[mcells] using this
 rw[e1,e2]
 exact exprs_all _ m.body w _ _ _ _ bcs bcs' zn hm.b hn b1 b2 b1' b2' hg hlv
theorem body_le (m:Tp.M):Tp.NS m.body<=Tp.nM m:=by unfold Tp.nM;omega
theorem treeReads_long {w:World}{x:ByteArray}(h:1500<x.size):Calls Tryz.prog 3 #[.string x] w fun e w'=>e=.returned (.bool true)/\Below w.heap.size w w':=by
 have hs:(1500:Int)<(x.size:Int):=by omega
 go_enter Tryz.func3,Tryz.ntmps3
 go_wp2_with fail
 go_ret
 exact⟨rfl,Below.refl _ _⟩
theorem treeReads_short {w:World}{l:List UInt8}(hl:l.length<=1500) (hg:Gw w) (hmk:Mk w) (hlv:Lv w) (hhd:Hnd w):Calls Tryz.prog 3 #[.string (bs l)] w fun e w'=>e=.returned (.bool true)/\Below w.heap.size w w':=by
 have hs:((bs l).size:Int)<=1500:=by rw[yA];omega
 have HRP:=zh (rparse_u w l (by omega) hg.gl)
 have HPU:Hid (∀ W,Below w.heap.size w W->Calls Tryz.prog 7 #[.string (bs l)] W fun e w'=>∃(mn:ByteArray) (ia ga qa sa:Option Addr) (il ic gl gc ql qc sl sc:Nat) (ev:Value),e=.returned (.tuple #[.agg #[.string mn,.slice ia il ic,.slice ga gl gc,.slice qa ql qc,.slice sa sl sc],ev])/\ErrA w' ev (numOf l).1 (numOf l).2/\VM W.heap.size (modOf l) (.agg #[.string mn,.slice ia il ic,.slice ga gl gc,.slice qa ql qc,.slice sa sl sc]) w'/\Below W.heap.size W w'):=fun W hW=>parse_u W l (by omega) (hmk.below hW hmk.1) (hlv.below hW hlv.1)
 have HND:Hid ((numOf l=(0,-1)/\Tp.WM (modOf l)/\(Tp.print (modOf l)).length<=1000000000/\Tp.NS (modOf l).body<=1000000)\/(numOf l).2≠-1):=by
  show _\/_
  unfold numOf modOf
  rcases hres:Tp.parse l with er|m
  ·exact Or.inr (by show ((er.2:Nat):Int)≠-1;omega)
  ·obtain⟨h1,h2⟩:=Tp.parse_wm hres
   have h3:=Tp.print_len h1
   have h4:=body_le m
   exact Or.inl ⟨rfl,h1,by show (Tp.print m).length<=_;omega,by show Tp.NS m.body<=_;omega⟩
 have HGW:=zh hg
 have HLV:=zh hlv
 have HHD:=zh hhd
 clear hg hmk hlv hhd hl
 generalize modOf l=mm at *
 generalize numOf l=nn at *
 obtain⟨en,pn⟩:=nn
 go_enter Tryz.func3,Tryz.ntmps3
 go_wp2_with fail
 refine HRP.out.mono ?_
 rintro e wa ⟨mn,ia,ga,qa,sa,il,ic,gl,gc,ql,qc,sl,sc,rfl,hv,hba⟩
 have hb2:Below wa.heap.size wa ((wa.alloc (.cells #[.string mn,.slice ia il ic,.slice ga gl gc,.slice qa ql qc,.slice sa sl sc] 27)).alloc (.cells #[.int .i64 en,.int .i64 pn] 30)):=(zb _ _).alloc (by simp) _
 have k12:((wa.alloc (.cells #[.string mn,.slice ia il ic,.slice ga gl gc,.slice qa ql qc,.slice sa sl sc] 27)).alloc (.cells #[.int .i64 en,.int .i64 pn] 30)).heap[wa.heap.size]?=some (.cells #[.string mn,.slice ia il ic,.slice ga gl gc,.slice qa ql qc,.slice sa sl sc] 27 (0,0)):=(Below.heap_alloc _ _ _ (by simp)).trans (zu _ _)
 have k13:((wa.alloc (.cells #[.string mn,.slice ia il ic,.slice ga gl gc,.slice qa ql qc,.slice sa sl sc] 27)).alloc (.cells #[.int .i64 en,.int .i64 pn] 30)).heap[wa.heap.size+1]?=some (.cells #[.int .i64 en,.int .i64 pn] 30 (0,0)):=by
  have:=zu (wa.alloc (.cells #[.string mn,.slice ia il ic,.slice ga gl gc,.slice qa ql qc,.slice sa sl sc] 27)) (.cells #[.int .i64 en,.int .i64 pn] 30)
  simpa using this
 go_wp2_with fail
 generalize (wa.alloc (.cells #[.string mn,.slice ia il ic,.slice ga gl gc,.slice qa ql qc,.slice sa sl sc] 27)).alloc (.cells #[.int .i64 en,.int .i64 pn] 30)=w2 at hb2 k12 k13 ⊢
 obtain⟨b13,hb13⟩:∃ b,b=wa.heap.size+1:=⟨_,rfl⟩
 obtain⟨b12,hb12⟩:∃ b,b=wa.heap.size:=⟨_,rfl⟩
 rw[<-hb13]at k13 ⊢
 rw[<-hb12]at k12 ⊢
 have HBA:=zh (hba.trans (hb2.mono hba.size))
 have HV1:=zh (hv.step hb2)
 clear hb13 hb12 hba hb2 hv HRP
 refine(HPU.out w2 HBA.out).mono ?_
 rintro e wb ⟨mn2,ia2,ga2,qa2,sa2,il2,ic2,gl2,gc2,ql2,qc2,sl2,sc2,ev,rfl,hev,hv2,hbb⟩
 have hb3:Below wb.heap.size wb (wb.alloc (.cells #[.string mn2,.slice ia2 il2 ic2,.slice ga2 gl2 gc2,.slice qa2 ql2 qc2,.slice sa2 sl2 sc2] 27)):=zb _ _
 have k14:(wb.alloc (.cells #[.string mn2,.slice ia2 il2 ic2,.slice ga2 gl2 gc2,.slice qa2 ql2 qc2,.slice sa2 sl2 sc2] 27)).heap[wb.heap.size]?=some (.cells #[.string mn2,.slice ia2 il2 ic2,.slice ga2 gl2 gc2,.slice qa2 ql2 qc2,.slice sa2 sl2 sc2] 27 (0,0)):=zu _ _
 have kk12:(wb.alloc (.cells #[.string mn2,.slice ia2 il2 ic2,.slice ga2 gl2 gc2,.slice qa2 ql2 qc2,.slice sa2 sl2 sc2] 27)).heap[b12]?=some (.cells #[.string mn,.slice ia il ic,.slice ga gl gc,.slice qa ql qc,.slice sa sl sc] 27 (0,0)):=(hb3.block b12 (Nat.lt_of_lt_of_le (zc k12) hbb.size)).trans ((hbb.block b12 (zc k12)).trans k12)
 have kk13:(wb.alloc (.cells #[.string mn2,.slice ia2 il2 ic2,.slice ga2 gl2 gc2,.slice qa2 ql2 qc2,.slice sa2 sl2 sc2] 27)).heap[b13]?=some (.cells #[.int .i64 en,.int .i64 pn] 30 (0,0)):=(hb3.block b13 (Nat.lt_of_lt_of_le (zc k13) hbb.size)).trans ((hbb.block b13 (zc k13)).trans k13)
 have HEV:=zh (hev.below hb3)
 have HV2:=zh (hv2.step hb3)
 have HV1':=zh ((HV1.out.step hbb).step hb3)
 have HB3:=zh (HBA.out.trans ((hbb.trans (hb3.mono hbb.size)).mono HBA.out.size))
 obtain⟨b14,hb14⟩:∃ b,b=wb.heap.size:=⟨_,rfl⟩
 clear hev hv2 hb3 hbb k12 k13 HV1 HBA HPU
 have HW3:Hid (∀ W,W=wb.alloc (.cells #[.string mn2,.slice ia2 il2 ic2,.slice ga2 gl2 gc2,.slice qa2 ql2 qc2,.slice sa2 sl2 sc2] 27)->W.heap[b14]?=some (.cells #[.string mn2,.slice ia2 il2 ic2,.slice ga2 gl2 gc2,.slice qa2 ql2 qc2,.slice sa2 sl2 sc2] 27 (0,0))/\W.heap[b12]?=some (.cells #[.string mn,.slice ia il ic,.slice ga gl gc,.slice qa ql qc,.slice sa sl sc] 27 (0,0))/\W.heap[b13]?=some (.cells #[.int .i64 en,.int .i64 pn] 30 (0,0))/\ErrA W ev en pn/\Below w.heap.size w W/\VM w.heap.size mm (.agg #[.string mn,.slice ia il ic,.slice ga gl gc,.slice qa ql qc,.slice sa sl sc]) W/\∃ B,VM B mm (.agg #[.string mn2,.slice ia2 il2 ic2,.slice ga2 gl2 gc2,.slice qa2 ql2 qc2,.slice sa2 sl2 sc2]) W):=fun W hW=>by
  subst hW
  rw[hb14]
  exact⟨k14,kk12,kk13,HEV.out,HB3.out,HV1'.out,_,HV2.out⟩
 clear k14 kk12 kk13 HEV HV2 HV1' HB3
 go_upto_region 5 with fail
 rw[<-hb14]
 clear hb14
 generalize hw3:wb.alloc (.cells #[.string mn2,.slice ia2 il2 ic2,.slice ga2 gl2 gc2,.slice qa2 ql2 qc2,.slice sa2 sl2 sc2] 27)=w3
 obtain⟨k14,k12,k13,hev,hb3,hv1,B2,hv2⟩:=HW3.out w3 hw3.symm
 clear hw3 HW3
 have HIS:=zh (lawIs_any hev ((hb3.cell (p:=⟨4,0,none⟩) (zi HHD.out)).trans HHD.out))
 have c0:w3.cell? ⟨b13,0,none⟩=some (.int .i64 en):=za k13
 have c1:w3.cell? ⟨b13,1,none⟩=some (.int .i64 pn):=za k13
 have hl13:=zc k13
 clear hev
 go_wp2_with fail
 refine HIS.out.mono ?_
 rintro e w4 ⟨rfl,hb4⟩
 have q12:=(hb4.block b12 (zc k12)).trans k12
 have q13:=(hb4.block b13 (zc k13)).trans k13
 have q14:=(hb4.block b14 (zc k14)).trans k14
 have hv1':=hv1.step hb4
 have hv2':=hv2.step hb4
 have HSM:=zh (xx hv2' hv1')
 have HB4:=zh (hb3.trans (hb4.mono hb3.size))
 have e0:w4.cell? ⟨b12,0,none⟩=some (.string mn):=za q12
 have e1:w4.cell? ⟨b12,1,none⟩=some (.slice ia il ic):=za q12
 have e2:w4.cell? ⟨b12,2,none⟩=some (.slice ga gl gc):=za q12
 have e3:w4.cell? ⟨b12,3,none⟩=some (.slice qa ql qc):=za q12
 have e4:w4.cell? ⟨b12,4,none⟩=some (.slice sa sl sc):=za q12
 have d0:w4.cell? ⟨b14,0,none⟩=some (.string mn2):=za q14
 have d1:w4.cell? ⟨b14,1,none⟩=some (.slice ia2 il2 ic2):=za q14
 have d2:w4.cell? ⟨b14,2,none⟩=some (.slice ga2 gl2 gc2):=za q14
 have d3:w4.cell? ⟨b14,3,none⟩=some (.slice qa2 ql2 qc2):=za q14
 have d4:w4.cell? ⟨b14,4,none⟩=some (.slice sa2 sl2 sc2):=za q14
 have hl12:=zc q12
 have hl14:=zc q14
 have HQ12:=zh q12
 have HQ13:=zh q13
 have HQ14:=zh q14
 have HV1:=zh hv1'
 have HV2:=zh hv2'
 clear c0 c1 hl13 k12 k13 k14 hv1 hv2 hv1' hv2' hb3 hb4 HIS q12 q13 q14
 go_wp2_with fail
 refine HSM.out.mono ?_
 rintro e w5 ⟨rfl,hb5⟩
 have HB5:=zh (HB4.out.trans (hb5.mono HB4.out.size))
 have z12:=(hb5.block b12 (zc HQ12.out)).trans HQ12.out
 have z13:=(hb5.block b13 (zc HQ13.out)).trans HQ13.out
 have z14:=(hb5.block b14 (zc HQ14.out)).trans HQ14.out
 have v1:=HV1.out.step hb5
 have v2:=HV2.out.step hb5
 clear e0 e1 e2 e3 e4 d0 d1 d2 d3 d4 hl12 hl14 hb5 HSM HB4 HQ12 HQ13 HQ14 HV1 HV2
 have hb:=fun d os=>HB5.out.trans ((below_regrown w5 d os).mono HB5.out.size)
 have gf0:∀ d os,(grow (redrawn w5 d) os).cell? ⟨0,0,none⟩=some (.int .i64 0):=fun d os=>((hb d os).cell (p:=⟨0,0,none⟩) (zi HGW.out.gl.f0)).trans HGW.out.gl.f0
 have gf1:∀ d os,(grow (redrawn w5 d) os).cell? ⟨0,1,none⟩=some (.int .i64 (-1)):=fun d os=>((hb d os).cell (p:=⟨0,1,none⟩) (zi HGW.out.gl.f1)).trans HGW.out.gl.f1
 have hlf:∀ d os,0<(grow (redrawn w5 d) os).heap.size:=fun d os=>zi (gf0 d os)
 have f0:=cell_regrown (za (i:=0) z13)
 have f1:=cell_regrown (za (i:=1) z13)
 have hl13:∀ d os,b13<(grow (redrawn w5 d) os).heap.size:=fun d os=>Nat.lt_of_lt_of_le (zc z13) (below_regrown w5 d os).size
 have HBB:=zh hb
 clear hb z13
 rcases HND.out with⟨hnn,hwm,hpl,hns⟩|hpn
 ·obtain⟨rfl,rfl⟩:=Prod.mk.inj hnn
  have a0:=cell_regrown (za (i:=0) z12)
  have a1:=cell_regrown (za (i:=1) z12)
  have a2:=cell_regrown (za (i:=2) z12)
  have a3:=cell_regrown (za (i:=3) z12)
  have a4:=cell_regrown (za (i:=4) z12)
  have m0:=cell_regrown (za (i:=0) z14)
  have m1:=cell_regrown (za (i:=1) z14)
  have m2:=cell_regrown (za (i:=2) z14)
  have m3:=cell_regrown (za (i:=3) z14)
  have m4:=cell_regrown (za (i:=4) z14)
  have hl12:∀ d os,b12<(grow (redrawn w5 d) os).heap.size:=fun d os=>Nat.lt_of_lt_of_le (zc z12) (below_regrown w5 d os).size
  have hl14:∀ d os,b14<(grow (redrawn w5 d) os).heap.size:=fun d os=>Nat.lt_of_lt_of_le (zc z14) (below_regrown w5 d os).size
  have cP:=fun d os=>Calls.regrown_of (prints_of hwm hpl (v2.step (below_regrown w5 d os)) (HGW.out.below (HBB.out d os)) (HLV.out.below (HBB.out d os) HLV.out.1)).1
  have cQ:=fun d os=>Calls.regrown_of (prints_of hwm hpl (v1.step (below_regrown w5 d os)) (HGW.out.below (HBB.out d os)) (HLV.out.below (HBB.out d os) HLV.out.1)).2
  have cX:=fun d os=>Calls.regrown_of (exprs_of hwm hns (v2.step (below_regrown w5 d os)) (v1.step (below_regrown w5 d os)) (HGW.out.below (HBB.out d os)) (HLV.out.below (HBB.out d os) HLV.out.1))
  clear z12 z14 v1 v2 hwm hpl hns HND hnn HGW HLV HHD
  generalize bs (Tp.print mm)=PT at *
  go_upto_region 7 with fail
  refine wp_region_quiet_below (by kernel_rfl) (by kernel_rfl) ?_
  repeat (quiet_step (first|(go_at_call 10;with_reducible exact cP _ _)|(go_at_call 11;with_reducible exact cQ _ _)|(go_at_call 12;with_reducible exact cX _ _)))
  refine wpQuiet_nil ?_
  intro _ hw'
  obtain⟨⟨dq,osq⟩,hw''⟩:=hw'
  subst hw''
  have HB6:=zh (HBB.out dq osq)
  clear cP cQ cX a0 a1 a2 a3 a4 m0 m1 m2 m3 m4 hl12 hl14 hl13 hlf f0 f1 gf0 gf1 HBB
  generalize grow (redrawn w5 dq) osq=wq at *
  go_wp2_with fail
  go_ret
  exact⟨rfl,HB6.out⟩
 ·have hpn':¬pn=-1:=hpn
  clear z12 z14 v1 v2 HND HGW HLV HHD hpn
  go_upto_region 7 with fail
  refine wp_region_quiet_below (by kernel_rfl) (by kernel_rfl) ?_
  iterate 18 ((with_reducible (refine wpQuiet_step (fun K hK=>?_)));go_simp;(first|(with_reducible (refine hK _ ?_))|(rw[if_neg (fun h=>by have h':(none:Option Bool)=some true:=h;cases h')];(with_reducible (refine hK _ ?_))));clear hK K)
  with_reducible refine wpQuiet_nil ?_
  intro _ hw'
  obtain⟨⟨dq,osq⟩,hw''⟩:=hw'
  subst hw''
  have HB6:=zh (HBB.out dq osq)
  clear hl13 hlf f0 f1 gf0 gf1 HBB
  generalize grow (redrawn w5 dq) osq=wq at *
  go_wp2_with fail
  go_ret
  exact⟨rfl,HB6.out⟩
theorem jO (x:ByteArray) (w:World) (hg:Gw w) (hmk:Mk w) (hlv:Lv w) (hhd:Hnd w):Calls Tryz.prog 3 #[.string x] w fun e w'=>e=.returned (.bool true)/\Below w.heap.size w w':=by
 by_cases h:1500<x.size
 ·exact treeReads_long h
 ·have e:x=bs x.data.toList:=by cases x;simp[bs]
  rw[e]
  refine treeReads_short ?_ hg hmk hlv hhd
  have:x.size=x.data.toList.length:=by cases x;simp[ByteArray.size]
  omega
end Go.Proofs.YthnoedjbhbkdeaaGreatDoor
