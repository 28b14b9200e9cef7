import Derived.Test.YtbkndnmglhghlaaGreatDoorKEa
import Derived.Test.YtbkndnmglhghlaaGreatDoorKPb
set_option maxRecDepth 100000
set_option maxHeartbeats 4000000

namespace Go.Proofs.YtbkndnmglhghlaaGreatDoor.Jo
open Go.RowKit
open Tp (Bs)
theorem yN (b:Bool)(v:Int)(c:Hid (v=if b then 1 else 0))(w:World):Calls Tryz.prog 179 #[.bool b] w fun e w'=>e=.returned (.int .i64 v)/\w'=w:=by
 have a:v=if b then 1 else 0:=c
 subst a
 cases b
 ·go_enter Tryz.func179,Tryz.ntmps179
  go_wp2
  go_ret
  exact⟨rfl,rfl⟩
 ·go_enter Tryz.func179,Tryz.ntmps179
  go_wp2
  go_ret
  exact⟨rfl,rfl⟩
theorem kD (p:Prop)[Decidable p]:(if decide p=true then (1:Int) else 0)=Tp.b01 p:=by unfold Tp.b01;simp
theorem jp (op:ByteArray)(a:Int)(w:World):Calls Tryz.prog 178 #[.string op,.int .i64 a,.int .i64 0] w fun e w'=>e=.returned (.tuple #[.int .i64 0,.bool false])/\w'=w:=by
 go_enter Tryz.func178,Tryz.ntmps178
 go_wp2
 go_ret2
 exact⟨rfl,rfl⟩
theorem yC (n:Int):wrap64 n=Tp.w64 n:=by unfold wrap64 Tp.w64;omega
theorem mend_yes {a b:Int}(i:Tp.I64 a)(k:Tp.I64 b)(d:b≠0)(f:¬a.tmod b=0)(j:(decide (a.tmod b<0)==decide (b<0))=false):wrap64 (a.tmod b+b)=a.fmod b/\wrap64 (wrap64 (a.tdiv b)-1)=Tp.w64 (a.fdiv b):=by
 have c:(a.tmod b≠0/\((a.tmod b<0)↔¬b<0)):=by
  refine⟨f,?_⟩
  by_cases g:a.tmod b<0<;>by_cases h:b<0<;>simp[g,h]at j ⊢
 have e:=Tp.fdiv_mend a b d
 rw[if_pos c,if_pos c]at e
 have l:=(Tp.both_rest i d).2
 rw[yC,yC,yC,e.1,<-e.2]
 refine⟨Tp.w64_id ?_,?_⟩
 ·unfold Tp.I64 at *;omega
 ·apply Tp.w64_congr;unfold Tp.w64;omega
theorem mend_no {a b:Int}(g:b≠0)(h:a.tmod b=0\/(decide (a.tmod b<0)==decide (b<0))=true):a.tmod b=a.fmod b/\wrap64 (a.tdiv b)=Tp.w64 (a.fdiv b):=by
 have c:¬(a.tmod b≠0/\((a.tmod b<0)↔¬b<0)):=by
  rintro⟨i,j⟩
  rcases h with h|h
  ·exact i h
  ·by_cases d:a.tmod b<0<;>by_cases f:b<0<;>simp[d,f]at h j
 have e:=Tp.fdiv_mend a b g
 rw[if_neg c,if_neg c]at e
 rw[yC,e.1,e.2]
 exact⟨by omega,by rw[Int.sub_zero]⟩
theorem jq (op:Bs)(a b:Int)(r:Tp.I64 a)(s:Tp.I64 b)(m:b≠0)(q:Int)(l:Hid (q=if op=Tp.wMod then a.fmod b else Tp.w64 (a.fdiv b)))(w:World):Calls Tryz.prog 178 #[.string (bs op),.int .i64 a,.int .i64 b] w fun e w'=>e=.returned (.tuple #[.int .i64 q,.bool true])/\Below w.heap.size w w':=by
 have f:Hid (∀n,Below w.heap.size w (w.drewN n)):=fun n=>below_drewN (Below.refl _ _) n
 have p:(a.tmod b=0\/¬a.tmod b=0/\(decide (a.tmod b<0)==decide (b<0))=true)\/¬a.tmod b=0/\(decide (a.tmod b<0)==decide (b<0))=false:=by
  by_cases o:a.tmod b=0
  ·exact Or.inl (Or.inl o)
  ·cases v:(decide (a.tmod b<0)==decide (b<0))
   ·exact Or.inr ⟨o,rfl⟩
   ·exact Or.inl (Or.inr ⟨o,rfl⟩)
 have t:op=Tp.wMod/\((bs op).toList==[109,111,100])=true\/op≠Tp.wMod/\((bs op).toList==[109,111,100])=false:=by
  by_cases h:op=Tp.wMod
  ·exact Or.inl ⟨h,by rw[zk,h];rfl⟩
  ·exact Or.inr ⟨h,by rw[zk];simpa[Tp.wMod] using h⟩
 rcases t with⟨g,u⟩|⟨g,u⟩
 ·have d:Hid (q=a.fmod b):=by show q=_;rw[l.out,if_pos g]
  clear l g
  rcases p with k|⟨i,j⟩
  ·have c:=zh (mend_no m (k.imp id (·.2))).1
   rcases k with k|⟨i,j⟩
   ·go_enter Tryz.func178,Tryz.ntmps178
    go_wp2_with fail
    go_quiet (fail)
    go_wp2_with fail
    go_ret2
    refine⟨?_,f.out _⟩
    rw[d.out,<-c.out,k];rfl
   ·go_enter Tryz.func178,Tryz.ntmps178
    go_wp2_with fail
    go_quiet (fail)
    go_wp2_with fail
    go_ret2
    refine⟨?_,f.out _⟩
    rw[d.out,<-c.out];rfl
  ·have c:=zh (mend_yes r s m i j).1
   go_enter Tryz.func178,Tryz.ntmps178
   go_wp2_with fail
   go_quiet (fail)
   go_wp2_with fail
   go_ret2
   refine⟨?_,f.out _⟩
   rw[d.out,<-c.out];rfl
 ·have d:Hid (q=Tp.w64 (a.fdiv b)):=by show q=_;rw[l.out,if_neg g]
  clear l g
  rcases p with k|⟨i,j⟩
  ·have c:=zh (mend_no m (k.imp id (·.2))).2
   rcases k with k|⟨i,j⟩
   ·go_enter Tryz.func178,Tryz.ntmps178
    go_wp2_with fail
    go_quiet (fail)
    go_wp2_with fail
    go_ret2
    refine⟨?_,f.out _⟩
    rw[d.out,<-c.out];rfl
   ·go_enter Tryz.func178,Tryz.ntmps178
    go_wp2_with fail
    go_quiet (fail)
    go_wp2_with fail
    go_ret2
    refine⟨?_,f.out _⟩
    rw[d.out,<-c.out];rfl
  ·have c:=zh (mend_yes r s m i j).2
   go_enter Tryz.func178,Tryz.ntmps178
   go_wp2_with fail
   go_quiet (fail)
   go_wp2_with fail
   go_ret2
   refine⟨?_,f.out _⟩
   rw[d.out,<-c.out];rfl
def BothP (w:World) (r:Option Int) (e:Ending) (w':World):Prop:=Below w.heap.size w w'/\e=.returned (match r with
 |some v=>.tuple #[.int .i64 v,.bool true]
 |none=>.tuple #[.int .i64 0,.bool false])
theorem both_mPlus (a b:Int)(w:World):Calls Tryz.prog 156 #[.string (bs Tp.mPlus),.int .i64 a,.int .i64 b] w (BothP w (Tp.both Tp.mPlus a b)):=by
 rw[Tp.both_plus]
 have c:((bs Tp.mPlus).toList==[43])=true:=by rw[zk];rfl
 generalize bs Tp.mPlus=x at *
 go_enter Tryz.func156,Tryz.ntmps156
 go_wp2_with fail
 go_ret2
 refine⟨Below.refl _ _,?_⟩
 rw[<-yC]
 rfl
theorem uK (a b:Int)(w:World):Calls Tryz.prog 156 #[.string (bs Tp.mMinus),.int .i64 a,.int .i64 b] w (BothP w (Tp.both Tp.mMinus a b)):=by
 rw[Tp.both_minus]
 have c:((bs Tp.mMinus).toList==[43])=false:=by rw[zk];rfl
 have d:((bs Tp.mMinus).toList==[45])=true:=by rw[zk];rfl
 generalize bs Tp.mMinus=x at *
 go_enter Tryz.func156,Tryz.ntmps156
 go_wp2_with fail
 go_ret2
 refine⟨Below.refl _ _,?_⟩
 rw[<-yC]
 rfl
theorem both_mStar (a b:Int)(w:World):Calls Tryz.prog 156 #[.string (bs Tp.mStar),.int .i64 a,.int .i64 b] w (BothP w (Tp.both Tp.mStar a b)):=by
 rw[Tp.both_star]
 have c:((bs Tp.mStar).toList==[43])=false:=by rw[zk];rfl
 have d:((bs Tp.mStar).toList==[45])=false:=by rw[zk];rfl
 have e:((bs Tp.mStar).toList==[42])=true:=by rw[zk];rfl
 generalize bs Tp.mStar=x at *
 go_enter Tryz.func156,Tryz.ntmps156
 go_wp2_with fail
 go_ret2
 refine⟨Below.refl _ _,?_⟩
 rw[<-yC]
 rfl
theorem both_wDiv (a b:Int)(h:Tp.I64 a)(i:Tp.I64 b)(w:World):Calls Tryz.prog 156 #[.string (bs Tp.wDiv),.int .i64 a,.int .i64 b] w (BothP w (Tp.both Tp.wDiv a b)):=by
 rw[Tp.both_div]
 have j:((bs Tp.wDiv).toList==[43])=false:=by rw[zk];rfl
 have k:((bs Tp.wDiv).toList==[45])=false:=by rw[zk];rfl
 have l:((bs Tp.wDiv).toList==[42])=false:=by rw[zk];rfl
 have m:((bs Tp.wDiv).toList==[100,105,118])=true:=by rw[zk];rfl
 by_cases c:b=0
 ·subst c
  rw[if_pos rfl]
  generalize bs Tp.wDiv=x at *
  go_enter Tryz.func156,Tryz.ntmps156
  go_wp2_with fail
  refine(jp _ a w).mono ?_
  rintro e w'⟨rfl,rfl⟩
  go_wp2_with fail
  go_ret2
  exact⟨Below.refl _ _,rfl⟩
 ·rw[if_neg c]
  have g:=zh (jq Tp.wDiv a b h i c (Tp.w64 (a.fdiv b)) (by show _=_;rw[if_neg (by decide)]) w)
  generalize bs Tp.wDiv=x at *
  generalize Tp.w64 (a.fdiv b)=v at *
  go_enter Tryz.func156,Tryz.ntmps156
  go_wp2_with fail
  refine g.out.mono ?_
  rintro e w'⟨rfl,d⟩
  have f:=zh d
  clear d
  go_wp2_with fail
  go_ret2
  exact⟨f.out,rfl⟩
theorem both_wMod (a b:Int)(h:Tp.I64 a)(i:Tp.I64 b)(w:World):Calls Tryz.prog 156 #[.string (bs Tp.wMod),.int .i64 a,.int .i64 b] w (BothP w (Tp.both Tp.wMod a b)):=by
 rw[Tp.both_mod]
 have j:((bs Tp.wMod).toList==[43])=false:=by rw[zk];rfl
 have k:((bs Tp.wMod).toList==[45])=false:=by rw[zk];rfl
 have l:((bs Tp.wMod).toList==[42])=false:=by rw[zk];rfl
 have m:((bs Tp.wMod).toList==[100,105,118])=false:=by rw[zk];rfl
 have n:((bs Tp.wMod).toList==[109,111,100])=true:=by rw[zk];rfl
 by_cases c:b=0
 ·subst c
  rw[if_pos rfl]
  generalize bs Tp.wMod=x at *
  go_enter Tryz.func156,Tryz.ntmps156
  go_wp2_with fail
  refine(jp _ a w).mono ?_
  rintro e w'⟨rfl,rfl⟩
  go_wp2_with fail
  go_ret2
  exact⟨Below.refl _ _,rfl⟩
 ·rw[if_neg c]
  have g:=zh (jq Tp.wMod a b h i c (a.fmod b) (by show _=_;rw[if_pos rfl]) w)
  generalize bs Tp.wMod=x at *
  generalize a.fmod b=v at *
  go_enter Tryz.func156,Tryz.ntmps156
  go_wp2_with fail
  refine g.out.mono ?_
  rintro e w'⟨rfl,d⟩
  have f:=zh d
  clear d
  go_wp2_with fail
  go_ret2
  exact⟨f.out,rfl⟩
theorem both_mEq (a b:Int)(w:World):Calls Tryz.prog 156 #[.string (bs Tp.mEq),.int .i64 a,.int .i64 b] w (BothP w (Tp.both Tp.mEq a b)):=by
 rw[Tp.both_eq]
 have f:((bs Tp.mEq).toList==[43])=false:=by rw[zk];rfl
 have g:((bs Tp.mEq).toList==[45])=false:=by rw[zk];rfl
 have i:((bs Tp.mEq).toList==[42])=false:=by rw[zk];rfl
 have j:((bs Tp.mEq).toList==[100,105,118])=false:=by rw[zk];rfl
 have k:((bs Tp.mEq).toList==[109,111,100])=false:=by rw[zk];rfl
 have l:((bs Tp.mEq).toList==[61])=true:=by rw[zk];rfl
 have c:Hid (∀q:Bool,q=decide (a=b)->Tp.b01 (a=b)=if q then (1:Int) else 0):=fun q h=>by rw[h];exact(kD _).symm
 generalize Tp.b01 (a=b)=v at *
 generalize bs Tp.mEq=x at *
 go_enter Tryz.func156,Tryz.ntmps156
 go_wp2_with fail
 refine(yN _ v (c.out _ (by first|rfl|(by_cases d:a=b<;>simp[d]))) w).mono ?_
 rintro e w'⟨rfl,rfl⟩
 go_wp2_with fail
 go_ret2
 exact⟨Below.refl _ _,rfl⟩
theorem both_mNe (a b:Int)(w:World):Calls Tryz.prog 156 #[.string (bs Tp.mNe),.int .i64 a,.int .i64 b] w (BothP w (Tp.both Tp.mNe a b)):=by
 rw[Tp.both_ne]
 have f:((bs Tp.mNe).toList==[43])=false:=by rw[zk];rfl
 have g:((bs Tp.mNe).toList==[45])=false:=by rw[zk];rfl
 have i:((bs Tp.mNe).toList==[42])=false:=by rw[zk];rfl
 have j:((bs Tp.mNe).toList==[100,105,118])=false:=by rw[zk];rfl
 have k:((bs Tp.mNe).toList==[109,111,100])=false:=by rw[zk];rfl
 have l:((bs Tp.mNe).toList==[61])=false:=by rw[zk];rfl
 have m:((bs Tp.mNe).toList==[35])=true:=by rw[zk];rfl
 have c:Hid (∀q:Bool,q=decide (a≠b)->Tp.b01 (a≠b)=if q then (1:Int) else 0):=fun q h=>by rw[h];exact(kD _).symm
 generalize Tp.b01 (a≠b)=v at *
 generalize bs Tp.mNe=x at *
 go_enter Tryz.func156,Tryz.ntmps156
 go_wp2_with fail
 refine(yN _ v (c.out _ (by first|rfl|(by_cases d:a=b<;>simp[d]))) w).mono ?_
 rintro e w'⟨rfl,rfl⟩
 go_wp2_with fail
 go_ret2
 exact⟨Below.refl _ _,rfl⟩
theorem both_mLt (a b:Int)(w:World):Calls Tryz.prog 156 #[.string (bs Tp.mLt),.int .i64 a,.int .i64 b] w (BothP w (Tp.both Tp.mLt a b)):=by
 rw[Tp.both_lt]
 have f:((bs Tp.mLt).toList==[43])=false:=by rw[zk];rfl
 have g:((bs Tp.mLt).toList==[45])=false:=by rw[zk];rfl
 have i:((bs Tp.mLt).toList==[42])=false:=by rw[zk];rfl
 have j:((bs Tp.mLt).toList==[100,105,118])=false:=by rw[zk];rfl
 have k:((bs Tp.mLt).toList==[109,111,100])=false:=by rw[zk];rfl
 have l:((bs Tp.mLt).toList==[61])=false:=by rw[zk];rfl
 have m:((bs Tp.mLt).toList==[35])=false:=by rw[zk];rfl
 have n:((bs Tp.mLt).toList==[60])=true:=by rw[zk];rfl
 have c:Hid (∀q:Bool,q=decide (a<b)->Tp.b01 (a<b)=if q then (1:Int) else 0):=fun q h=>by rw[h];exact(kD _).symm
 generalize Tp.b01 (a<b)=v at *
 generalize bs Tp.mLt=x at *
 go_enter Tryz.func156,Tryz.ntmps156
 go_wp2_with fail
 refine(yN _ v (c.out _ (by first|rfl|(by_cases d:a=b<;>simp[d]))) w).mono ?_
 rintro e w'⟨rfl,rfl⟩
 go_wp2_with fail
 go_ret2
 exact⟨Below.refl _ _,rfl⟩
theorem both_mLe (a b:Int)(w:World):Calls Tryz.prog 156 #[.string (bs Tp.mLe),.int .i64 a,.int .i64 b] w (BothP w (Tp.both Tp.mLe a b)):=by
 rw[Tp.both_le]
 have f:((bs Tp.mLe).toList==[43])=false:=by rw[zk];rfl
 have g:((bs Tp.mLe).toList==[45])=false:=by rw[zk];rfl
 have i:((bs Tp.mLe).toList==[42])=false:=by rw[zk];rfl
 have j:((bs Tp.mLe).toList==[100,105,118])=false:=by rw[zk];rfl
 have k:((bs Tp.mLe).toList==[109,111,100])=false:=by rw[zk];rfl
 have l:((bs Tp.mLe).toList==[61])=false:=by rw[zk];rfl
 have m:((bs Tp.mLe).toList==[35])=false:=by rw[zk];rfl
 have n:((bs Tp.mLe).toList==[60])=false:=by rw[zk];rfl
 have o:((bs Tp.mLe).toList==[60,61])=true:=by rw[zk];rfl
 have c:Hid (∀q:Bool,q=decide (a<=b)->Tp.b01 (a<=b)=if q then (1:Int) else 0):=fun q h=>by rw[h];exact(kD _).symm
 generalize Tp.b01 (a<=b)=v at *
 generalize bs Tp.mLe=x at *
 go_enter Tryz.func156,Tryz.ntmps156
 go_wp2_with fail
 refine(yN _ v (c.out _ (by first|rfl|(by_cases d:a=b<;>simp[d]))) w).mono ?_
 rintro e w'⟨rfl,rfl⟩
 go_wp2_with fail
 go_ret2
 exact⟨Below.refl _ _,rfl⟩
theorem both_mGt (a b:Int)(w:World):Calls Tryz.prog 156 #[.string (bs Tp.mGt),.int .i64 a,.int .i64 b] w (BothP w (Tp.both Tp.mGt a b)):=by
 rw[Tp.both_gt]
 have f:((bs Tp.mGt).toList==[43])=false:=by rw[zk];rfl
 have g:((bs Tp.mGt).toList==[45])=false:=by rw[zk];rfl
 have i:((bs Tp.mGt).toList==[42])=false:=by rw[zk];rfl
 have j:((bs Tp.mGt).toList==[100,105,118])=false:=by rw[zk];rfl
 have k:((bs Tp.mGt).toList==[109,111,100])=false:=by rw[zk];rfl
 have l:((bs Tp.mGt).toList==[61])=false:=by rw[zk];rfl
 have m:((bs Tp.mGt).toList==[35])=false:=by rw[zk];rfl
 have n:((bs Tp.mGt).toList==[60])=false:=by rw[zk];rfl
 have o:((bs Tp.mGt).toList==[60,61])=false:=by rw[zk];rfl
 have p:((bs Tp.mGt).toList==[62])=true:=by rw[zk];rfl
 have c:Hid (∀q:Bool,q=decide (a > b)->Tp.b01 (a > b)=if q then (1:Int) else 0):=fun q h=>by rw[h];exact(kD _).symm
 generalize Tp.b01 (a > b)=v at *
 generalize bs Tp.mGt=x at *
 go_enter Tryz.func156,Tryz.ntmps156
 go_wp2_with fail
 refine(yN _ v (c.out _ (by first|rfl|(by_cases d:a=b<;>simp[d]))) w).mono ?_
 rintro e w'⟨rfl,rfl⟩
 go_wp2_with fail
 go_ret2
 exact⟨Below.refl _ _,rfl⟩
theorem both_mGe (a b:Int)(w:World):Calls Tryz.prog 156 #[.string (bs Tp.mGe),.int .i64 a,.int .i64 b] w (BothP w (Tp.both Tp.mGe a b)):=by
 rw[Tp.both_ge]
 have g:((bs Tp.mGe).toList==[43])=false:=by rw[zk];rfl
 have i:((bs Tp.mGe).toList==[45])=false:=by rw[zk];rfl
 have j:((bs Tp.mGe).toList==[42])=false:=by rw[zk];rfl
 have k:((bs Tp.mGe).toList==[100,105,118])=false:=by rw[zk];rfl
 have l:((bs Tp.mGe).toList==[109,111,100])=false:=by rw[zk];rfl
 have m:((bs Tp.mGe).toList==[61])=false:=by rw[zk];rfl
 have n:((bs Tp.mGe).toList==[35])=false:=by rw[zk];rfl
 have o:((bs Tp.mGe).toList==[60])=false:=by rw[zk];rfl
 have p:((bs Tp.mGe).toList==[60,61])=false:=by rw[zk];rfl
 have r:((bs Tp.mGe).toList==[62])=false:=by rw[zk];rfl
 have f:((bs Tp.mGe).toList==[62,61])=true:=by rw[zk];rfl
 have c:Hid (∀q:Bool,q=decide (a ≥ b)->Tp.b01 (a ≥ b)=if q then (1:Int) else 0):=fun q h=>by rw[h];exact(kD _).symm
 generalize Tp.b01 (a ≥ b)=v at *
 generalize bs Tp.mGe=x at *
 go_enter Tryz.func156,Tryz.ntmps156
 go_wp2_with fail
 refine(yN _ v (c.out _ (by first|rfl|(by_cases d:a=b<;>simp[d]))) w).mono ?_
 rintro e w'⟨rfl,rfl⟩
 go_wp2_with fail
 go_ret2
 exact⟨Below.refl _ _,rfl⟩
theorem both_other (op:Bs)(a b:Int)(w:World)(d:op≠Tp.mPlus)(e:op≠Tp.mMinus)(f:op≠Tp.mStar)(g:op≠Tp.wDiv)(h:op≠Tp.wMod)(i:op≠Tp.mEq)(j:op≠Tp.mNe)(k:op≠Tp.mLt)(l:op≠Tp.mLe)(m:op≠Tp.mGt)(c:op≠Tp.mGe):Calls Tryz.prog 156 #[.string (bs op),.int .i64 a,.int .i64 b] w (BothP w (Tp.both op a b)):=by
 unfold Tp.both
 rw[if_neg d,if_neg e,if_neg f,if_neg g,if_neg h,if_neg i,if_neg j,if_neg k,if_neg l,if_neg m,if_neg c]
 have o:((bs op).toList==[43])=false:=by rw[zk];simpa[Tp.mPlus] using d
 have p:((bs op).toList==[45])=false:=by rw[zk];simpa[Tp.mMinus] using e
 have q:((bs op).toList==[42])=false:=by rw[zk];simpa[Tp.mStar] using f
 have r:((bs op).toList==[100,105,118])=false:=by rw[zk];simpa[Tp.wDiv] using g
 have s:((bs op).toList==[109,111,100])=false:=by rw[zk];simpa[Tp.wMod] using h
 have t:((bs op).toList==[61])=false:=by rw[zk];simpa[Tp.mEq] using i
 have u:((bs op).toList==[35])=false:=by rw[zk];simpa[Tp.mNe] using j
 have v:((bs op).toList==[60])=false:=by rw[zk];simpa[Tp.mLt] using k
 have y:((bs op).toList==[60,61])=false:=by rw[zk];simpa[Tp.mLe] using l
 have z:((bs op).toList==[62])=false:=by rw[zk];simpa[Tp.mGt] using m
 have n:((bs op).toList==[62,61])=false:=by rw[zk];simpa[Tp.mGe] using c
 clear d e f g h i j k l m c
 generalize bs op=x at *
 go_enter Tryz.func156,Tryz.ntmps156
 go_wp2_with fail
 go_ret2
 exact⟨Below.refl _ _,rfl⟩
theorem both_any (op:Bs)(a b:Int)(d:Tp.I64 a)(e:Tp.I64 b)(w:World):Calls Tryz.prog 156 #[.string (bs op),.int .i64 a,.int .i64 b] w (BothP w (Tp.both op a b)):=by
 by_cases f:op=Tp.mPlus
 ·subst f;exact both_mPlus a b w
 by_cases g:op=Tp.mMinus
 ·subst g;exact uK a b w
 by_cases h:op=Tp.mStar
 ·subst h;exact both_mStar a b w
 by_cases i:op=Tp.wDiv
 ·subst i;exact both_wDiv a b d e w
 by_cases j:op=Tp.wMod
 ·subst j;exact both_wMod a b d e w
 by_cases k:op=Tp.mEq
 ·subst k;exact both_mEq a b w
 by_cases l:op=Tp.mNe
 ·subst l;exact both_mNe a b w
 by_cases m:op=Tp.mLt
 ·subst m;exact both_mLt a b w
 by_cases n:op=Tp.mLe
 ·subst n;exact both_mLe a b w
 by_cases o:op=Tp.mGt
 ·subst o;exact both_mGt a b w
 by_cases c:op=Tp.mGe
 ·subst c;exact both_mGe a b w
 exact both_other op a b w f g h i j k l m n o c
end Go.Proofs.YtbkndnmglhghlaaGreatDoor.Jo
