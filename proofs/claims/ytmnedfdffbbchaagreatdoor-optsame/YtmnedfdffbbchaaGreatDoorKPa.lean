import Derived.KernelRfl
set_option maxRecDepth 100000
set_option maxHeartbeats 4000000

namespace Tp
abbrev Bs:=List UInt8
def wDiv:Bs:=[100,105,118]
def wMod:Bs:=[109,111,100]
def mLe:Bs:=[60,61]
def mGe:Bs:=[62,61]
def mNe:Bs:=[35]
def mEq:Bs:=[61]
def mLt:Bs:=[60]
def mGt:Bs:=[62]
def mPlus:Bs:=[43]
def mMinus:Bs:=[45]
def mStar:Bs:=[42]
def w64 (n:Int):Int:=(n+9223372036854775808) % 18446744073709551616 - 9223372036854775808
abbrev I64 (n:Int):Prop:=-9223372036854775808<=n/\n<=9223372036854775807
theorem w64_in (n:Int):I64 (w64 n):=by unfold I64 w64;omega
theorem w64_id {n:Int}(h:I64 n):w64 n=n:=by unfold I64 at h;unfold w64;omega
theorem w64_congr {a b:Int}(h:(a - b) % 18446744073709551616=0):w64 a=w64 b:=by unfold w64;omega
def b01 (p:Prop) [Decidable p]:Int:=if p then 1 else 0
def both (op:Bs) (a b:Int):Option Int :=
 if op=mPlus then some (w64 (a+b))
 else if op=mMinus then some (w64 (a - b))
 else if op=mStar then some (w64 (a * b))
 else if op=wDiv then (if b=0 then none else some (w64 (a.fdiv b)))
 else if op=wMod then (if b=0 then none else some (a.fmod b))
 else if op=mEq then some (b01 (a=b))
 else if op=mNe then some (b01 (a≠b))
 else if op=mLt then some (b01 (a<b))
 else if op=mLe then some (b01 (a<=b))
 else if op=mGt then some (b01 (a > b))
 else if op=mGe then some (b01 (a ≥ b))
 else some 0
theorem both_plus (a b:Int):both mPlus a b=some (w64 (a+b)):=by simp[both]
theorem both_minus (a b:Int):both mMinus a b=some (w64 (a - b)):=by simp[both,mMinus,mPlus]
theorem both_star (a b:Int):both mStar a b=some (w64 (a * b)):=by simp[both,mMinus,mPlus,mStar]
theorem both_div (a b:Int):both wDiv a b=if b=0 then none else some (w64 (a.fdiv b)):=by simp[both,mMinus,mPlus,mStar,wDiv]
theorem both_mod (a b:Int):both wMod a b=if b=0 then none else some (a.fmod b):=by simp[both,mMinus,mPlus,mStar,wDiv,wMod]
theorem both_eq (a b:Int):both mEq a b=some (b01 (a=b)):=by simp[both,mMinus,mPlus,mStar,wDiv,wMod,mEq]
theorem both_ne (a b:Int):both mNe a b=some (b01 (a≠b)):=by simp[both,mMinus,mPlus,mStar,wDiv,wMod,mEq,mNe]
theorem both_lt (a b:Int):both mLt a b=some (b01 (a<b)):=by simp[both,mMinus,mPlus,mStar,wDiv,wMod,mEq,mNe,mLt]
theorem both_le (a b:Int):both mLe a b=some (b01 (a<=b)):=by simp[both,mMinus,mPlus,mStar,wDiv,wMod,mEq,mNe,mLt,mLe]
theorem both_gt (a b:Int):both mGt a b=some (b01 (a > b)):=by simp[both,mMinus,mPlus,mStar,wDiv,wMod,mEq,mNe,mLt,mLe,mGt]
theorem both_ge (a b:Int):both mGe a b=some (b01 (a ≥ b)):=by simp[both,mMinus,mPlus,mStar,wDiv,wMod,mEq,mNe,mLt,mLe,mGt,mGe]
theorem fdiv_mend (a b:Int) (hb:b≠0):a.fdiv b=a.tdiv b - (if a.tmod b≠0/\((a.tmod b<0)↔¬b<0) then 1 else 0)/\a.fmod b=a.tmod b+(if a.tmod b≠0/\((a.tmod b<0)↔¬b<0) then b else 0):=by
 have h1:=Int.tmod_add_mul_tdiv a b
 have h2:=Int.fmod_add_mul_fdiv a b
 have k1:0<b->0<=a.fmod b/\a.fmod b<b:=fun h=>⟨Int.fmod_nonneg_of_pos a h,Int.fmod_lt_of_pos a h⟩
 have k2:b<0->b<a.fmod b/\a.fmod b<=0:=by
  intro h
  have e:(-a).fmod (-b)=- a.fmod b:=by rw[Int.neg_fmod_neg]
  have l:=Int.fmod_nonneg_of_pos (-a) (b:=-b) (by omega)
  have u:=Int.fmod_lt_of_pos (-a) (b:=-b) (by omega)
  omega
 have k3:0<b->-b<a.tmod b/\a.tmod b<b:=fun h=>⟨by have:=Int.lt_tmod_of_pos a h;omega,Int.tmod_lt_of_pos a h⟩
 have k4:b<0->b<a.tmod b/\a.tmod b < -b:=by
  intro h
  have e:a.tmod (-b)=a.tmod b:=Int.tmod_neg a b
  have l:=Int.lt_tmod_of_pos a (b:=-b) (by omega)
  have u:=Int.tmod_lt_of_pos a (b:=-b) (by omega)
  omega
 have key:∀ q r q' r':Int,r+b * q=a->r'+b * q'=a->(0<b->0<=r/\r<b/\0<=r'/\r'<b)->(b<0->b<r/\r<=0/\b<r'/\r'<=0)->q=q'/\r=r':=by
  intro q r q' r' e1 e2 hp hn
  have e3:b * (q - q')=r' - r:=by rw[Int.mul_sub];omega
  have:q - q'=0:=by
   rcases Int.lt_or_gt_of_ne hb with h|h
   ·have z:=hn h
    rcases Int.lt_trichotomy (q - q') 0 with y|y|y
    ·have:b * (q - q') ≥ -b:=by
      have:=Int.mul_le_mul_of_nonneg_left (a:=q - q') (b:=-1) (c:=-b) (by omega) (by omega)
      rw[Int.neg_mul]at this
      omega
     omega
    ·exact y
    ·have:b * (q - q')<=b:=by
      have:=Int.mul_le_mul_of_nonneg_left (a:=1) (b:=q - q') (c:=-b) (by omega) (by omega)
      rw[Int.neg_mul b (q - q')]at this
      omega
     omega
   ·have z:=hp h
    rcases Int.lt_trichotomy (q - q') 0 with y|y|y
    ·have:b * (q - q')<=b * (-1):=Int.mul_le_mul_of_nonneg_left (by omega) (by omega)
     omega
    ·exact y
    ·have:b * 1<=b * (q - q'):=Int.mul_le_mul_of_nonneg_left (by omega) (by omega)
     omega
  have q0:q=q':=by omega
  subst q0
  exact⟨rfl,by omega⟩
 split
 ·rename_i c
  refine key _ _ _ _ h2 ?_ ?_ ?_
  ·rw[Int.mul_sub];omega
  ·intro h
   have:=k1 h;have:=k3 h
   have:=c.2
   omega
  ·intro h
   have:=k2 h;have:=k4 h
   have:=c.2
   omega
 ·rename_i c
  rw[Int.sub_zero,Int.add_zero]
  refine key _ _ _ _ h2 ?_ ?_ ?_
  ·omega
  ·intro h
   have:=k1 h;have:=k3 h
   omega
  ·intro h
   have:=k2 h;have:=k4 h
   omega
theorem both_rest {a b:Int}(ha:I64 a) (hb:b≠0):w64 (w64 (w64 (a.fdiv b) * b)+a.fmod b)=a/\(a.fmod b=0\/(a.fmod b<0↔b<0))/\((0<b/\a.fmod b<b)\/(b<0/\b<a.fmod b)\/a.fmod b=0):=by
 have h2:=Int.fmod_add_mul_fdiv a b
 have k1:0<b->0<=a.fmod b/\a.fmod b<b:=fun h=>⟨Int.fmod_nonneg_of_pos a h,Int.fmod_lt_of_pos a h⟩
 have k2:b<0->b<a.fmod b/\a.fmod b<=0:=by
  intro h
  have e:(-a).fmod (-b)=- a.fmod b:=by rw[Int.neg_fmod_neg]
  have l:=Int.fmod_nonneg_of_pos (-a) (b:=-b) (by omega)
  have u:=Int.fmod_lt_of_pos (-a) (b:=-b) (by omega)
  omega
 refine⟨?_,?_,?_⟩
 ·have e1:w64 (w64 (a.fdiv b) * b)=w64 (a.fdiv b * b):=by
   apply w64_congr
   rw[<-Int.sub_mul]
   obtain⟨k,hk⟩:∃ k,w64 (a.fdiv b) - a.fdiv b=18446744073709551616 * k:=⟨(w64 (a.fdiv b) - a.fdiv b) / 18446744073709551616,by unfold w64;omega⟩
   rw[hk,Int.mul_assoc]
   exact Int.mul_emod_right _ _
  have e2:w64 (w64 (a.fdiv b * b)+a.fmod b)=w64 (a.fdiv b * b+a.fmod b):=by
   apply w64_congr
   unfold w64
   omega
  rw[e1,e2]
  have e3:a.fdiv b * b+a.fmod b=a:=by rw[Int.mul_comm];omega
  rw[e3,w64_id ha]
 ·rcases Int.lt_or_gt_of_ne hb with h|h
  ·have:=k2 h;omega
  ·have:=k1 h;omega
 ·rcases Int.lt_or_gt_of_ne hb with h|h
  ·have:=k2 h;omega
  ·have:=k1 h;omega
end Tp
