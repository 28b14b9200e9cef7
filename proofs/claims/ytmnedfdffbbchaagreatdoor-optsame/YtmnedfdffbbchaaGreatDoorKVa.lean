import Derived.Test.YtmnedfdffbbchaaGreatDoorKEa
import Derived.Test.YtmnedfdffbbchaaGreatDoorKPa
import Derived.BigQuiet
import Derived.Lib.Hide
set_option maxRecDepth 100000
set_option maxHeartbeats 4000000

namespace Go.Proofs.YtmnedfdffbbchaaGreatDoor.Jo
open Go.RowKit
open Tp (Bs)
theorem yO (b:Bool) (v:Int) (hv:Hid (v=if b then 1 else 0)) (w:World):Calls Tryz.prog 135 #[.bool b] w fun e w'=>e=.returned (.int .i64 v)/\w'=w:=by
 have hv':v=if b then 1 else 0:=hv
 subst hv'
 cases b
 ·go_enter Tryz.func135,Tryz.ntmps135
  go_wp2
  go_ret
  exact⟨rfl,rfl⟩
 ·go_enter Tryz.func135,Tryz.ntmps135
  go_wp2
  go_ret
  exact⟨rfl,rfl⟩
theorem kG (p:Prop) [Decidable p]:(if decide p=true then (1:Int) else 0)=Tp.b01 p:=by unfold Tp.b01;simp
theorem js (op:ByteArray) (a:Int) (w:World):Calls Tryz.prog 134 #[.string op,.int .i64 a,.int .i64 0] w fun e w'=>e=.returned (.tuple #[.int .i64 0,.bool false])/\w'=w:=by
 go_enter Tryz.func134,Tryz.ntmps134
 go_wp2
 go_ret2
 exact⟨rfl,rfl⟩
theorem yD (n:Int):wrap64 n=Tp.w64 n:=by unfold wrap64 Tp.w64;omega
theorem mend_yes {a b:Int}(ha:Tp.I64 a) (hb:Tp.I64 b) (hz:b≠0) (h0:¬a.tmod b=0) (hs:(decide (a.tmod b<0) == decide (b<0))=false):wrap64 (a.tmod b+b)=a.fmod b/\wrap64 (wrap64 (a.tdiv b) - 1)=Tp.w64 (a.fdiv b):=by
 have hc:(a.tmod b≠0/\((a.tmod b<0)↔¬b<0)):=by
  refine⟨h0,?_⟩
  by_cases h1:a.tmod b<0 <;> by_cases h2:b<0 <;> simp[h1,h2]at hs ⊢
 have e:=Tp.fdiv_mend a b hz
 rw[if_pos hc,if_pos hc]at e
 have hr:=(Tp.both_rest ha hz).2
 rw[yD,yD,yD,e.1,<-e.2]
 refine⟨Tp.w64_id ?_,?_⟩
 ·unfold Tp.I64 at *;omega
 ·apply Tp.w64_congr;unfold Tp.w64;omega
theorem mend_no {a b:Int}(hz:b≠0) (h:a.tmod b=0\/(decide (a.tmod b<0) == decide (b<0))=true):a.tmod b=a.fmod b/\wrap64 (a.tdiv b)=Tp.w64 (a.fdiv b):=by
 have hc:¬(a.tmod b≠0/\((a.tmod b<0)↔¬b<0)):=by
  rintro⟨q1,q2⟩
  rcases h with h|h
  ·exact q1 h
  ·by_cases h1:a.tmod b<0 <;> by_cases h2:b<0 <;> simp[h1,h2]at h q2
 have e:=Tp.fdiv_mend a b hz
 rw[if_neg hc,if_neg hc]at e
 rw[yD,e.1,e.2]
 exact⟨by omega,by rw[Int.sub_zero]⟩
theorem jt (op:Bs) (a b:Int) (ha:Tp.I64 a) (hb:Tp.I64 b) (hz:b≠0) (q:Int) (hq:Hid (q=if op=Tp.wMod then a.fmod b else Tp.w64 (a.fdiv b))) (w:World):Calls Tryz.prog 134 #[.string (bs op),.int .i64 a,.int .i64 b] w fun e w'=>e=.returned (.tuple #[.int .i64 q,.bool true])/\Below w.heap.size w w':=by
 have HB:Hid (∀ n,Below w.heap.size w (w.drewN n)):=fun n=>below_drewN (Below.refl _ _) n
 have key:(a.tmod b=0\/¬a.tmod b=0/\(decide (a.tmod b<0) == decide (b<0))=true)\/¬a.tmod b=0/\(decide (a.tmod b<0) == decide (b<0))=false:=by
  by_cases h0:a.tmod b=0
  ·exact Or.inl (Or.inl h0)
  ·cases hs:(decide (a.tmod b<0) == decide (b<0))
   ·exact Or.inr ⟨h0,rfl⟩
   ·exact Or.inl (Or.inr ⟨h0,rfl⟩)
 have hop:op=Tp.wMod/\((bs op).toList == [109,111,100])=true\/op≠Tp.wMod/\((bs op).toList == [109,111,100])=false:=by
  by_cases h:op=Tp.wMod
  ·exact Or.inl ⟨h,by rw[zu,h];rfl⟩
  ·exact Or.inr ⟨h,by rw[zu];simpa[Tp.wMod] using h⟩
 rcases hop with⟨h1,h2⟩|⟨h1,h2⟩
 ·have HQ:Hid (q=a.fmod b):=by show q=_;rw[hq.out,if_pos h1]
  clear hq h1
  rcases key with k|⟨k1,k2⟩
  ·have HV:=zh (mend_no hz (k.imp id (·.2))).1
   rcases k with k|⟨k1,k2⟩
   ·go_enter Tryz.func134,Tryz.ntmps134
    go_wp2_with fail
    go_quiet (fail)
    go_wp2_with fail
    go_ret2
    refine⟨?_,HB.out _⟩
    rw[HQ.out,<-HV.out,k];rfl
   ·go_enter Tryz.func134,Tryz.ntmps134
    go_wp2_with fail
    go_quiet (fail)
    go_wp2_with fail
    go_ret2
    refine⟨?_,HB.out _⟩
    rw[HQ.out,<-HV.out];rfl
  ·have HV:=zh (mend_yes ha hb hz k1 k2).1
   go_enter Tryz.func134,Tryz.ntmps134
   go_wp2_with fail
   go_quiet (fail)
   go_wp2_with fail
   go_ret2
   refine⟨?_,HB.out _⟩
   rw[HQ.out,<-HV.out];rfl
 ·have HQ:Hid (q=Tp.w64 (a.fdiv b)):=by show q=_;rw[hq.out,if_neg h1]
  clear hq h1
  rcases key with k|⟨k1,k2⟩
  ·have HV:=zh (mend_no hz (k.imp id (·.2))).2
   rcases k with k|⟨k1,k2⟩
   ·go_enter Tryz.func134,Tryz.ntmps134
    go_wp2_with fail
    go_quiet (fail)
    go_wp2_with fail
    go_ret2
    refine⟨?_,HB.out _⟩
    rw[HQ.out,<-HV.out];rfl
   ·go_enter Tryz.func134,Tryz.ntmps134
    go_wp2_with fail
    go_quiet (fail)
    go_wp2_with fail
    go_ret2
    refine⟨?_,HB.out _⟩
    rw[HQ.out,<-HV.out];rfl
  ·have HV:=zh (mend_yes ha hb hz k1 k2).2
   go_enter Tryz.func134,Tryz.ntmps134
   go_wp2_with fail
   go_quiet (fail)
   go_wp2_with fail
   go_ret2
   refine⟨?_,HB.out _⟩
   rw[HQ.out,<-HV.out];rfl
def BothP (w:World) (r:Option Int) (e:Ending) (w':World):Prop:=Below w.heap.size w w'/\e=.returned (match r with
 | some v=>.tuple #[.int .i64 v,.bool true]
 | none=>.tuple #[.int .i64 0,.bool false])
theorem both_mPlus (a b:Int) (w:World):Calls Tryz.prog 128 #[.string (bs Tp.mPlus),.int .i64 a,.int .i64 b] w (BothP w (Tp.both Tp.mPlus a b)):=by
 rw[Tp.both_plus]
 have h0:((bs Tp.mPlus).toList == [43])=true:=by rw[zu];rfl
 generalize bs Tp.mPlus=x at *
 go_enter Tryz.func128,Tryz.ntmps128
 go_wp2_with fail
 go_ret2
 refine⟨Below.refl _ _,?_⟩
 rw[<-yD]
 rfl
theorem uo (a b:Int) (w:World):Calls Tryz.prog 128 #[.string (bs Tp.mMinus),.int .i64 a,.int .i64 b] w (BothP w (Tp.both Tp.mMinus a b)):=by
 rw[Tp.both_minus]
 have h0:((bs Tp.mMinus).toList == [43])=false:=by rw[zu];rfl
 have h1:((bs Tp.mMinus).toList == [45])=true:=by rw[zu];rfl
 generalize bs Tp.mMinus=x at *
 go_enter Tryz.func128,Tryz.ntmps128
 go_wp2_with fail
 go_ret2
 refine⟨Below.refl _ _,?_⟩
 rw[<-yD]
 rfl
theorem both_mStar (a b:Int) (w:World):Calls Tryz.prog 128 #[.string (bs Tp.mStar),.int .i64 a,.int .i64 b] w (BothP w (Tp.both Tp.mStar a b)):=by
 rw[Tp.both_star]
 have h0:((bs Tp.mStar).toList == [43])=false:=by rw[zu];rfl
 have h1:((bs Tp.mStar).toList == [45])=false:=by rw[zu];rfl
 have h2:((bs Tp.mStar).toList == [42])=true:=by rw[zu];rfl
 generalize bs Tp.mStar=x at *
 go_enter Tryz.func128,Tryz.ntmps128
 go_wp2_with fail
 go_ret2
 refine⟨Below.refl _ _,?_⟩
 rw[<-yD]
 rfl
theorem both_wDiv (a b:Int) (ha:Tp.I64 a) (hb:Tp.I64 b) (w:World):Calls Tryz.prog 128 #[.string (bs Tp.wDiv),.int .i64 a,.int .i64 b] w (BothP w (Tp.both Tp.wDiv a b)):=by
 rw[Tp.both_div]
 have h0:((bs Tp.wDiv).toList == [43])=false:=by rw[zu];rfl
 have h1:((bs Tp.wDiv).toList == [45])=false:=by rw[zu];rfl
 have h2:((bs Tp.wDiv).toList == [42])=false:=by rw[zu];rfl
 have h3:((bs Tp.wDiv).toList == [100,105,118])=true:=by rw[zu];rfl
 by_cases hz:b=0
 ·subst hz
  rw[if_pos rfl]
  generalize bs Tp.wDiv=x at *
  go_enter Tryz.func128,Tryz.ntmps128
  go_wp2_with fail
  refine(js _ a w).mono ?_
  rintro e w' ⟨rfl,rfl⟩
  go_wp2_with fail
  go_ret2
  exact⟨Below.refl _ _,rfl⟩
 ·rw[if_neg hz]
  have HD:=zh (jt Tp.wDiv a b ha hb hz (Tp.w64 (a.fdiv b)) (by show _=_;rw[if_neg (by decide)]) w)
  generalize bs Tp.wDiv=x at *
  generalize Tp.w64 (a.fdiv b)=v at *
  go_enter Tryz.func128,Tryz.ntmps128
  go_wp2_with fail
  refine HD.out.mono ?_
  rintro e w' ⟨rfl,hb1⟩
  have HB:=zh hb1
  clear hb1
  go_wp2_with fail
  go_ret2
  exact⟨HB.out,rfl⟩
theorem both_wMod (a b:Int) (ha:Tp.I64 a) (hb:Tp.I64 b) (w:World):Calls Tryz.prog 128 #[.string (bs Tp.wMod),.int .i64 a,.int .i64 b] w (BothP w (Tp.both Tp.wMod a b)):=by
 rw[Tp.both_mod]
 have h0:((bs Tp.wMod).toList == [43])=false:=by rw[zu];rfl
 have h1:((bs Tp.wMod).toList == [45])=false:=by rw[zu];rfl
 have h2:((bs Tp.wMod).toList == [42])=false:=by rw[zu];rfl
 have h3:((bs Tp.wMod).toList == [100,105,118])=false:=by rw[zu];rfl
 have h4:((bs Tp.wMod).toList == [109,111,100])=true:=by rw[zu];rfl
 by_cases hz:b=0
 ·subst hz
  rw[if_pos rfl]
  generalize bs Tp.wMod=x at *
  go_enter Tryz.func128,Tryz.ntmps128
  go_wp2_with fail
  refine(js _ a w).mono ?_
  rintro e w' ⟨rfl,rfl⟩
  go_wp2_with fail
  go_ret2
  exact⟨Below.refl _ _,rfl⟩
 ·rw[if_neg hz]
  have HD:=zh (jt Tp.wMod a b ha hb hz (a.fmod b) (by show _=_;rw[if_pos rfl]) w)
  generalize bs Tp.wMod=x at *
  generalize a.fmod b=v at *
  go_enter Tryz.func128,Tryz.ntmps128
  go_wp2_with fail
  refine HD.out.mono ?_
  rintro e w' ⟨rfl,hb1⟩
  have HB:=zh hb1
  clear hb1
  go_wp2_with fail
  go_ret2
  exact⟨HB.out,rfl⟩
theorem both_mEq (a b:Int) (w:World):Calls Tryz.prog 128 #[.string (bs Tp.mEq),.int .i64 a,.int .i64 b] w (BothP w (Tp.both Tp.mEq a b)):=by
 rw[Tp.both_eq]
 have h0:((bs Tp.mEq).toList == [43])=false:=by rw[zu];rfl
 have h1:((bs Tp.mEq).toList == [45])=false:=by rw[zu];rfl
 have h2:((bs Tp.mEq).toList == [42])=false:=by rw[zu];rfl
 have h3:((bs Tp.mEq).toList == [100,105,118])=false:=by rw[zu];rfl
 have h4:((bs Tp.mEq).toList == [109,111,100])=false:=by rw[zu];rfl
 have h5:((bs Tp.mEq).toList == [61])=true:=by rw[zu];rfl
 have HV:Hid (∀ q:Bool,q=decide (a=b)->Tp.b01 (a=b)=if q then (1:Int) else 0):=fun q h=>by rw[h];exact(kG _).symm
 generalize Tp.b01 (a=b)=v at *
 generalize bs Tp.mEq=x at *
 go_enter Tryz.func128,Tryz.ntmps128
 go_wp2_with fail
 refine(yO _ v (HV.out _ (by first|rfl|(by_cases hh:a=b <;> simp[hh]))) w).mono ?_
 rintro e w' ⟨rfl,rfl⟩
 go_wp2_with fail
 go_ret2
 exact⟨Below.refl _ _,rfl⟩
theorem both_mNe (a b:Int) (w:World):Calls Tryz.prog 128 #[.string (bs Tp.mNe),.int .i64 a,.int .i64 b] w (BothP w (Tp.both Tp.mNe a b)):=by
 rw[Tp.both_ne]
 have h0:((bs Tp.mNe).toList == [43])=false:=by rw[zu];rfl
 have h1:((bs Tp.mNe).toList == [45])=false:=by rw[zu];rfl
 have h2:((bs Tp.mNe).toList == [42])=false:=by rw[zu];rfl
 have h3:((bs Tp.mNe).toList == [100,105,118])=false:=by rw[zu];rfl
 have h4:((bs Tp.mNe).toList == [109,111,100])=false:=by rw[zu];rfl
 have h5:((bs Tp.mNe).toList == [61])=false:=by rw[zu];rfl
 have h6:((bs Tp.mNe).toList == [35])=true:=by rw[zu];rfl
 have HV:Hid (∀ q:Bool,q=decide (a≠b)->Tp.b01 (a≠b)=if q then (1:Int) else 0):=fun q h=>by rw[h];exact(kG _).symm
 generalize Tp.b01 (a≠b)=v at *
 generalize bs Tp.mNe=x at *
 go_enter Tryz.func128,Tryz.ntmps128
 go_wp2_with fail
 refine(yO _ v (HV.out _ (by first|rfl|(by_cases hh:a=b <;> simp[hh]))) w).mono ?_
 rintro e w' ⟨rfl,rfl⟩
 go_wp2_with fail
 go_ret2
 exact⟨Below.refl _ _,rfl⟩
theorem both_mLt (a b:Int) (w:World):Calls Tryz.prog 128 #[.string (bs Tp.mLt),.int .i64 a,.int .i64 b] w (BothP w (Tp.both Tp.mLt a b)):=by
 rw[Tp.both_lt]
 have h0:((bs Tp.mLt).toList == [43])=false:=by rw[zu];rfl
 have h1:((bs Tp.mLt).toList == [45])=false:=by rw[zu];rfl
 have h2:((bs Tp.mLt).toList == [42])=false:=by rw[zu];rfl
 have h3:((bs Tp.mLt).toList == [100,105,118])=false:=by rw[zu];rfl
 have h4:((bs Tp.mLt).toList == [109,111,100])=false:=by rw[zu];rfl
 have h5:((bs Tp.mLt).toList == [61])=false:=by rw[zu];rfl
 have h6:((bs Tp.mLt).toList == [35])=false:=by rw[zu];rfl
 have h7:((bs Tp.mLt).toList == [60])=true:=by rw[zu];rfl
 have HV:Hid (∀ q:Bool,q=decide (a<b)->Tp.b01 (a<b)=if q then (1:Int) else 0):=fun q h=>by rw[h];exact(kG _).symm
 generalize Tp.b01 (a<b)=v at *
 generalize bs Tp.mLt=x at *
 go_enter Tryz.func128,Tryz.ntmps128
 go_wp2_with fail
 refine(yO _ v (HV.out _ (by first|rfl|(by_cases hh:a=b <;> simp[hh]))) w).mono ?_
 rintro e w' ⟨rfl,rfl⟩
 go_wp2_with fail
 go_ret2
 exact⟨Below.refl _ _,rfl⟩
theorem both_mLe (a b:Int) (w:World):Calls Tryz.prog 128 #[.string (bs Tp.mLe),.int .i64 a,.int .i64 b] w (BothP w (Tp.both Tp.mLe a b)):=by
 rw[Tp.both_le]
 have h0:((bs Tp.mLe).toList == [43])=false:=by rw[zu];rfl
 have h1:((bs Tp.mLe).toList == [45])=false:=by rw[zu];rfl
 have h2:((bs Tp.mLe).toList == [42])=false:=by rw[zu];rfl
 have h3:((bs Tp.mLe).toList == [100,105,118])=false:=by rw[zu];rfl
 have h4:((bs Tp.mLe).toList == [109,111,100])=false:=by rw[zu];rfl
 have h5:((bs Tp.mLe).toList == [61])=false:=by rw[zu];rfl
 have h6:((bs Tp.mLe).toList == [35])=false:=by rw[zu];rfl
 have h7:((bs Tp.mLe).toList == [60])=false:=by rw[zu];rfl
 have h8:((bs Tp.mLe).toList == [60,61])=true:=by rw[zu];rfl
 have HV:Hid (∀ q:Bool,q=decide (a<=b)->Tp.b01 (a<=b)=if q then (1:Int) else 0):=fun q h=>by rw[h];exact(kG _).symm
 generalize Tp.b01 (a<=b)=v at *
 generalize bs Tp.mLe=x at *
 go_enter Tryz.func128,Tryz.ntmps128
 go_wp2_with fail
 refine(yO _ v (HV.out _ (by first|rfl|(by_cases hh:a=b <;> simp[hh]))) w).mono ?_
 rintro e w' ⟨rfl,rfl⟩
 go_wp2_with fail
 go_ret2
 exact⟨Below.refl _ _,rfl⟩
theorem both_mGt (a b:Int) (w:World):Calls Tryz.prog 128 #[.string (bs Tp.mGt),.int .i64 a,.int .i64 b] w (BothP w (Tp.both Tp.mGt a b)):=by
 rw[Tp.both_gt]
 have h0:((bs Tp.mGt).toList == [43])=false:=by rw[zu];rfl
 have h1:((bs Tp.mGt).toList == [45])=false:=by rw[zu];rfl
 have h2:((bs Tp.mGt).toList == [42])=false:=by rw[zu];rfl
 have h3:((bs Tp.mGt).toList == [100,105,118])=false:=by rw[zu];rfl
 have h4:((bs Tp.mGt).toList == [109,111,100])=false:=by rw[zu];rfl
 have h5:((bs Tp.mGt).toList == [61])=false:=by rw[zu];rfl
 have h6:((bs Tp.mGt).toList == [35])=false:=by rw[zu];rfl
 have h7:((bs Tp.mGt).toList == [60])=false:=by rw[zu];rfl
 have h8:((bs Tp.mGt).toList == [60,61])=false:=by rw[zu];rfl
 have h9:((bs Tp.mGt).toList == [62])=true:=by rw[zu];rfl
 have HV:Hid (∀ q:Bool,q=decide (a > b)->Tp.b01 (a > b)=if q then (1:Int) else 0):=fun q h=>by rw[h];exact(kG _).symm
 generalize Tp.b01 (a > b)=v at *
 generalize bs Tp.mGt=x at *
 go_enter Tryz.func128,Tryz.ntmps128
 go_wp2_with fail
 refine(yO _ v (HV.out _ (by first|rfl|(by_cases hh:a=b <;> simp[hh]))) w).mono ?_
 rintro e w' ⟨rfl,rfl⟩
 go_wp2_with fail
 go_ret2
 exact⟨Below.refl _ _,rfl⟩
theorem both_mGe (a b:Int) (w:World):Calls Tryz.prog 128 #[.string (bs Tp.mGe),.int .i64 a,.int .i64 b] w (BothP w (Tp.both Tp.mGe a b)):=by
 rw[Tp.both_ge]
 have h0:((bs Tp.mGe).toList == [43])=false:=by rw[zu];rfl
 have h1:((bs Tp.mGe).toList == [45])=false:=by rw[zu];rfl
 have h2:((bs Tp.mGe).toList == [42])=false:=by rw[zu];rfl
 have h3:((bs Tp.mGe).toList == [100,105,118])=false:=by rw[zu];rfl
 have h4:((bs Tp.mGe).toList == [109,111,100])=false:=by rw[zu];rfl
 have h5:((bs Tp.mGe).toList == [61])=false:=by rw[zu];rfl
 have h6:((bs Tp.mGe).toList == [35])=false:=by rw[zu];rfl
 have h7:((bs Tp.mGe).toList == [60])=false:=by rw[zu];rfl
 have h8:((bs Tp.mGe).toList == [60,61])=false:=by rw[zu];rfl
 have h9:((bs Tp.mGe).toList == [62])=false:=by rw[zu];rfl
 have h10:((bs Tp.mGe).toList == [62,61])=true:=by rw[zu];rfl
 have HV:Hid (∀ q:Bool,q=decide (a ≥ b)->Tp.b01 (a ≥ b)=if q then (1:Int) else 0):=fun q h=>by rw[h];exact(kG _).symm
 generalize Tp.b01 (a ≥ b)=v at *
 generalize bs Tp.mGe=x at *
 go_enter Tryz.func128,Tryz.ntmps128
 go_wp2_with fail
 refine(yO _ v (HV.out _ (by first|rfl|(by_cases hh:a=b <;> simp[hh]))) w).mono ?_
 rintro e w' ⟨rfl,rfl⟩
 go_wp2_with fail
 go_ret2
 exact⟨Below.refl _ _,rfl⟩
theorem both_other (op:Bs) (a b:Int) (w:World) (n0:op≠Tp.mPlus) (n1:op≠Tp.mMinus) (n2:op≠Tp.mStar) (n3:op≠Tp.wDiv) (n4:op≠Tp.wMod) (n5:op≠Tp.mEq) (n6:op≠Tp.mNe) (n7:op≠Tp.mLt) (n8:op≠Tp.mLe) (n9:op≠Tp.mGt) (n10:op≠Tp.mGe):Calls Tryz.prog 128 #[.string (bs op),.int .i64 a,.int .i64 b] w (BothP w (Tp.both op a b)):=by
 unfold Tp.both
 rw[if_neg n0,if_neg n1,if_neg n2,if_neg n3,if_neg n4,if_neg n5,if_neg n6,if_neg n7,if_neg n8,if_neg n9,if_neg n10]
 have h0:((bs op).toList == [43])=false:=by rw[zu];simpa[Tp.mPlus] using n0
 have h1:((bs op).toList == [45])=false:=by rw[zu];simpa[Tp.mMinus] using n1
 have h2:((bs op).toList == [42])=false:=by rw[zu];simpa[Tp.mStar] using n2
 have h3:((bs op).toList == [100,105,118])=false:=by rw[zu];simpa[Tp.wDiv] using n3
 have h4:((bs op).toList == [109,111,100])=false:=by rw[zu];simpa[Tp.wMod] using n4
 have h5:((bs op).toList == [61])=false:=by rw[zu];simpa[Tp.mEq] using n5
 have h6:((bs op).toList == [35])=false:=by rw[zu];simpa[Tp.mNe] using n6
 have h7:((bs op).toList == [60])=false:=by rw[zu];simpa[Tp.mLt] using n7
 have h8:((bs op).toList == [60,61])=false:=by rw[zu];simpa[Tp.mLe] using n8
 have h9:((bs op).toList == [62])=false:=by rw[zu];simpa[Tp.mGt] using n9
 have h10:((bs op).toList == [62,61])=false:=by rw[zu];simpa[Tp.mGe] using n10
 clear n0 n1 n2 n3 n4 n5 n6 n7 n8 n9 n10
 generalize bs op=x at *
 go_enter Tryz.func128,Tryz.ntmps128
 go_wp2_with fail
 go_ret2
 exact⟨Below.refl _ _,rfl⟩
theorem both_any (op:Bs) (a b:Int) (ha:Tp.I64 a) (hb:Tp.I64 b) (w:World):Calls Tryz.prog 128 #[.string (bs op),.int .i64 a,.int .i64 b] w (BothP w (Tp.both op a b)):=by
 by_cases n0:op=Tp.mPlus
 ·subst n0;exact both_mPlus a b w
 by_cases n1:op=Tp.mMinus
 ·subst n1;exact uo a b w
 by_cases n2:op=Tp.mStar
 ·subst n2;exact both_mStar a b w
 by_cases n3:op=Tp.wDiv
 ·subst n3;exact both_wDiv a b ha hb w
 by_cases n4:op=Tp.wMod
 ·subst n4;exact both_wMod a b ha hb w
 by_cases n5:op=Tp.mEq
 ·subst n5;exact both_mEq a b w
 by_cases n6:op=Tp.mNe
 ·subst n6;exact both_mNe a b w
 by_cases n7:op=Tp.mLt
 ·subst n7;exact both_mLt a b w
 by_cases n8:op=Tp.mLe
 ·subst n8;exact both_mLe a b w
 by_cases n9:op=Tp.mGt
 ·subst n9;exact both_mGt a b w
 by_cases n10:op=Tp.mGe
 ·subst n10;exact both_mGe a b w
 exact both_other op a b w n0 n1 n2 n3 n4 n5 n6 n7 n8 n9 n10
end Go.Proofs.YtmnedfdffbbchaaGreatDoor.Jo
