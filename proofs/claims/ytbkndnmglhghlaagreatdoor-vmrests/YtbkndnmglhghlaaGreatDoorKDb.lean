/- VmRests: with more fuel an object ends just so, if it ends by itself; with less it tells a beginning; a machine beside it changes nothing: for every object and numbers the call returns true. -/
import Derived.Test.YtbkndnmglhghlaaGreatDoorKDa
import Derived.Test.YtbkndnmglhghlaaGreatDoorCards
import Derived.Test.YtbkndnmglhghlaaGreatDoorTie
import Derived.Deep.DeepHandedRow
set_option maxRecDepth 100000
set_option maxHeartbeats 4000000

namespace Go.Proofs.YtbkndnmglhghlaaGreatDoor.vmRests
open Go.ChangeShapes Go.WideShapes Go.ChangeAt Go.RowKit
open Go.ChangeMaps (open_string shut_string)
open Go.Proofs.YtbkndnmglhghlaaGreatDoor
theorem own:ownKnob Tryz.prog.godebug=none:=by kernel_rfl
theorem laidOut:laidOutB Tryz.prog=true:=by kernel_rfl
theorem contract (H:Type)(enc:TypeId×Value->H)(W:World)(z:Nat)(args:Array Value)(i K:List (DataW H))(y:List MemPlace)
  (a:∀(j:Nat) t v,Tryz.f3.params[j]?=some t->args[j]?=some v->Value.okWide Tryz.prog W .any z t v)
  (m:DataW.Whole enc Tryz.prog Tryz.f3.params.toList Rows.vmRestsSpec.vars false W args.toList i K y)(N:laidMetH Tryz.prog Rows.vmRestsRow.laid W) :
  Calls Tryz.prog 3 args W fun e g=>∃v,e=.returned v/\Rows.vmRestsSpec.post enc Tryz.prog Tryz.f3 false true false false W args v g:=by
 have b:=m
 obtain⟨p,q,d,O,rfl,a2,a3⟩:=m
 have l:DataW.TrodAll enc Tryz.prog W 0 (fun _=>true) true Tryz.f3.params.toList args.toList i p:=d
 rw[Tryz.params3]at l a
 obtain⟨s,a5,J,Z,c,q0,V,rfl,rfl,k,r0⟩:=trodAll_cons l
 obtain⟨u,a6,d1,a0,p1,q1,X,rfl,rfl,L,T⟩:=trodAll_cons r0
 obtain⟨w,a7,d2,a1,p2,q2,Y,rfl,rfl,M,U⟩:=trodAll_cons T
 obtain⟨rfl,rfl,rfl⟩:=trodAll_nil U
 obtain rfl:args=#[s,u,w]:=by cases args;simp_all
 obtain⟨rfl,rfl⟩:=trodVars_none O
 obtain⟨R,rfl,rfl,rfl,F⟩:=open_int Tryz.underlying3 (a 1 3 u rfl rfl) L
 obtain⟨S,rfl,rfl,rfl,G⟩:=open_int Tryz.underlying3 (a 2 3 w rfl rfl) M
 obtain⟨r,rfl⟩:=okWide_pointer Tryz.underlying22 (a 0 22 s rfl rfl)
 have D:=k
 obtain⟨A,n⟩:=D
 have f:DataW.trod enc Tryz.prog W 0 (fun _=>true) true A 22 [.pointer r]=some (J,c):=by simpa[Value.cells] using n
 obtain⟨a4,I,B⟩:=Jo.open_object f
 cases I
 clear d n f
 simp only[List.append_nil]at b
 have E:∀x∈c,x.block<W.heap.size:=fun x Q=>by simpa using b.lt x (by simpa using Q)
 have C:=xV (vars_ofE N) (Nat.le_refl _) r R S B
 refine C.mono fun e g ⟨P,o⟩=>?_
 subst P
 exact⟨_,rfl,_,_,_,[],c++([]++([]++([]))),[],b,trodAll_cons_mk (shut_bool Tryz.underlying4 _) trodAll_mk0,trodAll_cons_mk (Below.trod laidOut (by kernel_rfl) (of_decide_eq_true (by kernel_rfl)) k o E) (trodAll_cons_mk (shut_int Tryz.underlying3 F) (trodAll_cons_mk (shut_int Tryz.underlying3 G) trodAll_mk0)),rfl,o.frame _,fun h=>by cases h⟩
theorem laid_met (os:Os):laidMetH Tryz.prog Rows.vmRestsRow.laid (({ (World.holding Tryz.prog os ⟨#[],#[],[]⟩) with heap:=((((((((World.holding Tryz.prog os ⟨#[],#[],[]⟩).heap.modify 1 fun | .cells _ t frozen=>.cells #[.string ⟨#[58,61]⟩,.string ⟨#[60,61]⟩,.string ⟨#[62,61]⟩,.string ⟨#[35]⟩,.string ⟨#[61]⟩,.string ⟨#[60]⟩,.string ⟨#[62]⟩,.string ⟨#[43]⟩,.string ⟨#[45]⟩,.string ⟨#[42]⟩,.string ⟨#[40]⟩,.string ⟨#[41]⟩,.string ⟨#[91]⟩,.string ⟨#[93]⟩,.string ⟨#[44]⟩,.string ⟨#[59]⟩,.string ⟨#[58]⟩,.string ⟨#[46]⟩] t frozen|o=>o).modify 4 fun | .cells _ t frozen=>.cells #[.string ⟨#[111,114]⟩,.int .i64 0,.string ⟨#[97,110,100]⟩,.int .i64 1,.string ⟨#[61]⟩,.int .i64 2,.string ⟨#[35]⟩,.int .i64 2,.string ⟨#[60]⟩,.int .i64 2,.string ⟨#[60,61]⟩,.int .i64 2,.string ⟨#[62]⟩,.int .i64 2,.string ⟨#[62,61]⟩,.int .i64 2,.string ⟨#[43]⟩,.int .i64 3,.string ⟨#[45]⟩,.int .i64 3,.string ⟨#[42]⟩,.int .i64 4,.string ⟨#[100,105,118]⟩,.int .i64 4,.string ⟨#[109,111,100]⟩,.int .i64 4] t frozen|o=>o).modify 2 fun | .cells _ t frozen=>.cells #[.string ⟨#[43]⟩,.string ⟨#[45]⟩,.string ⟨#[42]⟩,.string ⟨#[100,105,118]⟩,.string ⟨#[109,111,100]⟩,.string ⟨#[61]⟩,.string ⟨#[35]⟩,.string ⟨#[60]⟩,.string ⟨#[60,61]⟩,.string ⟨#[62]⟩,.string ⟨#[62,61]⟩] t frozen|o=>o).modify 0 fun | .cells _ t frozen=>.cells #[.iface 191 (.agg #[.pointer (some ⟨8,33,none⟩)])] t frozen|o=>o).modify 5 fun | .cells _ t frozen=>.cells #[.int .u64 1,.int .u64 10,.int .u64 100,.int .u64 1000,.int .u64 10000,.int .u64 100000,.int .u64 1000000,.int .u64 10000000,.int .u64 100000000,.int .u64 1000000000,.int .u64 10000000000,.int .u64 100000000000,.int .u64 1000000000000,.int .u64 10000000000000,.int .u64 100000000000000,.int .u64 1000000000000000,.int .u64 10000000000000000,.int .u64 100000000000000000,.int .u64 1000000000000000000,.int .u64 10000000000000000000] t frozen|o=>o).modify 6 fun | .cells _ t frozen=>.cells #[.int .u8 0,.int .u8 1,.int .u8 28,.int .u8 2,.int .u8 29,.int .u8 14,.int .u8 24,.int .u8 3,.int .u8 30,.int .u8 22,.int .u8 20,.int .u8 15,.int .u8 25,.int .u8 17,.int .u8 4,.int .u8 8,.int .u8 31,.int .u8 27,.int .u8 13,.int .u8 23,.int .u8 21,.int .u8 19,.int .u8 16,.int .u8 7,.int .u8 26,.int .u8 12,.int .u8 18,.int .u8 6,.int .u8 11,.int .u8 5,.int .u8 10,.int .u8 9] t frozen|o=>o).modify 7 fun | .cells _ t frozen=>.cells #[.int .u8 0,.int .u8 1,.int .u8 56,.int .u8 2,.int .u8 57,.int .u8 49,.int .u8 28,.int .u8 3,.int .u8 61,.int .u8 58,.int .u8 42,.int .u8 50,.int .u8 38,.int .u8 29,.int .u8 17,.int .u8 4,.int .u8 62,.int .u8 47,.int .u8 59,.int .u8 36,.int .u8 45,.int .u8 43,.int .u8 51,.int .u8 22,.int .u8 53,.int .u8 39,.int .u8 33,.int .u8 30,.int .u8 24,.int .u8 18,.int .u8 12,.int .u8 5,.int .u8 63,.int .u8 55,.int .u8 48,.int .u8 27,.int .u8 60,.int .u8 41,.int .u8 37,.int .u8 16,.int .u8 46,.int .u8 35,.int .u8 44,.int .u8 21,.int .u8 52,.int .u8 32,.int .u8 23,.int .u8 11,.int .u8 54,.int .u8 26,.int .u8 40,.int .u8 15,.int .u8 34,.int .u8 20,.int .u8 31,.int .u8 10,.int .u8 25,.int .u8 14,.int .u8 19,.int .u8 9,.int .u8 13,.int .u8 8,.int .u8 7,.int .u8 6] t frozen|o=>o) }:World).forCall (fun _ _=>0) ⟨#[],#[.pointer none,.int .i64 0,.int .i64 0],[]⟩).memory :=
 laidMetH_of_parts (laidMet_of_run' 8 (by kernel_rfl) (by kernel_rfl)) (by kernel_rfl)
theorem reads (os:Os){H:Type}(enc:TypeId×Value->H):∃places,DataW.whole enc Tryz.prog (({ (World.holding Tryz.prog os ⟨#[],#[],[]⟩) with heap:=((((((((World.holding Tryz.prog os ⟨#[],#[],[]⟩).heap.modify 1 fun | .cells _ t frozen=>.cells #[.string ⟨#[58,61]⟩,.string ⟨#[60,61]⟩,.string ⟨#[62,61]⟩,.string ⟨#[35]⟩,.string ⟨#[61]⟩,.string ⟨#[60]⟩,.string ⟨#[62]⟩,.string ⟨#[43]⟩,.string ⟨#[45]⟩,.string ⟨#[42]⟩,.string ⟨#[40]⟩,.string ⟨#[41]⟩,.string ⟨#[91]⟩,.string ⟨#[93]⟩,.string ⟨#[44]⟩,.string ⟨#[59]⟩,.string ⟨#[58]⟩,.string ⟨#[46]⟩] t frozen|o=>o).modify 4 fun | .cells _ t frozen=>.cells #[.string ⟨#[111,114]⟩,.int .i64 0,.string ⟨#[97,110,100]⟩,.int .i64 1,.string ⟨#[61]⟩,.int .i64 2,.string ⟨#[35]⟩,.int .i64 2,.string ⟨#[60]⟩,.int .i64 2,.string ⟨#[60,61]⟩,.int .i64 2,.string ⟨#[62]⟩,.int .i64 2,.string ⟨#[62,61]⟩,.int .i64 2,.string ⟨#[43]⟩,.int .i64 3,.string ⟨#[45]⟩,.int .i64 3,.string ⟨#[42]⟩,.int .i64 4,.string ⟨#[100,105,118]⟩,.int .i64 4,.string ⟨#[109,111,100]⟩,.int .i64 4] t frozen|o=>o).modify 2 fun | .cells _ t frozen=>.cells #[.string ⟨#[43]⟩,.string ⟨#[45]⟩,.string ⟨#[42]⟩,.string ⟨#[100,105,118]⟩,.string ⟨#[109,111,100]⟩,.string ⟨#[61]⟩,.string ⟨#[35]⟩,.string ⟨#[60]⟩,.string ⟨#[60,61]⟩,.string ⟨#[62]⟩,.string ⟨#[62,61]⟩] t frozen|o=>o).modify 0 fun | .cells _ t frozen=>.cells #[.iface 191 (.agg #[.pointer (some ⟨8,33,none⟩)])] t frozen|o=>o).modify 5 fun | .cells _ t frozen=>.cells #[.int .u64 1,.int .u64 10,.int .u64 100,.int .u64 1000,.int .u64 10000,.int .u64 100000,.int .u64 1000000,.int .u64 10000000,.int .u64 100000000,.int .u64 1000000000,.int .u64 10000000000,.int .u64 100000000000,.int .u64 1000000000000,.int .u64 10000000000000,.int .u64 100000000000000,.int .u64 1000000000000000,.int .u64 10000000000000000,.int .u64 100000000000000000,.int .u64 1000000000000000000,.int .u64 10000000000000000000] t frozen|o=>o).modify 6 fun | .cells _ t frozen=>.cells #[.int .u8 0,.int .u8 1,.int .u8 28,.int .u8 2,.int .u8 29,.int .u8 14,.int .u8 24,.int .u8 3,.int .u8 30,.int .u8 22,.int .u8 20,.int .u8 15,.int .u8 25,.int .u8 17,.int .u8 4,.int .u8 8,.int .u8 31,.int .u8 27,.int .u8 13,.int .u8 23,.int .u8 21,.int .u8 19,.int .u8 16,.int .u8 7,.int .u8 26,.int .u8 12,.int .u8 18,.int .u8 6,.int .u8 11,.int .u8 5,.int .u8 10,.int .u8 9] t frozen|o=>o).modify 7 fun | .cells _ t frozen=>.cells #[.int .u8 0,.int .u8 1,.int .u8 56,.int .u8 2,.int .u8 57,.int .u8 49,.int .u8 28,.int .u8 3,.int .u8 61,.int .u8 58,.int .u8 42,.int .u8 50,.int .u8 38,.int .u8 29,.int .u8 17,.int .u8 4,.int .u8 62,.int .u8 47,.int .u8 59,.int .u8 36,.int .u8 45,.int .u8 43,.int .u8 51,.int .u8 22,.int .u8 53,.int .u8 39,.int .u8 33,.int .u8 30,.int .u8 24,.int .u8 18,.int .u8 12,.int .u8 5,.int .u8 63,.int .u8 55,.int .u8 48,.int .u8 27,.int .u8 60,.int .u8 41,.int .u8 37,.int .u8 16,.int .u8 46,.int .u8 35,.int .u8 44,.int .u8 21,.int .u8 52,.int .u8 32,.int .u8 23,.int .u8 11,.int .u8 54,.int .u8 26,.int .u8 40,.int .u8 15,.int .u8 34,.int .u8 20,.int .u8 31,.int .u8 10,.int .u8 25,.int .u8 14,.int .u8 19,.int .u8 9,.int .u8 13,.int .u8 8,.int .u8 7,.int .u8 6] t frozen|o=>o) }:World).forCall (fun _ _=>0) ⟨#[],#[.pointer none,.int .i64 0,.int .i64 0],[]⟩).memory Tryz.f3.params.toList Rows.vmRestsSpec.vars false #[Value.pointer none,Value.int .i64 0,Value.int .i64 0].toList 8=some ([.nil,.lit (.int .i64 0),.lit (.int .i64 0)],[],places) :=
 ⟨[],by kernel_rfl⟩
theorem lifted (os:Os)(a:os.Started)(H:Type)(enc:TypeId×Value->H)(F:Stop.Interp) :
  ReturnsInHanded {} Tryz.checked os 3 .any ((OpenSpec.ofChange Rows.vmRestsSpec).preRow enc Tryz.prog Tryz.f3 Rows.vmRestsRow.domain false Rows.vmRestsRow.laid) (((OpenSpec.ofChange Rows.vmRestsSpec).at F).post enc Tryz.prog Tryz.f3 false true false false):=by
 obtain⟨l,j⟩:=reads os enc
 refine returnsInHanded_of_row (C:=Tryz.checked) (s:=OpenSpec.ofChange Rows.vmRestsSpec) own a (by kernel_rfl) Tryz.func3
  (witness_row_at (enc:=enc) (C:=Tryz.checked) false _ #[.pointer none,.int .i64 0,.int .i64 0] rfl (by kernel_rfl) (by kernel_rfl) (by kernel_rfl)
   (OpenSpec.preRow_of_cond 8 j (by kernel_rfl) (fun k i=>by cases i) (by kernel_rfl) (laid_met os))) ?_
 intro W c args e f b d h _ _ _ g _ _
 exact contract H enc W c args e f b d h g
theorem said:Rows.VmRestsSaid :=
 OpenClaim.holds_of_cond 3 Tryz.f3 rfl rfl rfl rfl rfl rfl rfl ⟨rfl,rfl,rfl,rfl,rfl⟩ rfl rfl rfl rfl rfl (by kernel_rfl) Tryz.func3 (by kernel_rfl)
  (of_decide_eq_true (by kernel_rfl)) (by unfold Func.isWrapper;first|(rw[if_pos (by decide +kernel)];kernel_rfl)|(rw[if_neg (by decide +kernel)];exact⟨rfl,rfl⟩))
  (fun os a H enc _ F=>by rw[OpenClaim.pre_eq_preRow];exact lifted os a H enc F)
theorem plain (f:FuncId)(a:Func)(e:Tryz.pinned.checked.prog.funcNamed "marquetry/marquetrykeep.VmRests"=some f)(d:Tryz.pinned.checked.prog.funcs[f]?=some a) :
  true=Tryz.pinned.checked.prog.looks []/\∀(j:Nat) t,a.params[j]?=some t->Tryz.pinned.checked.prog.wantsStandIn t=false:=by
 obtain rfl:f=3:=Option.some.inj ((show Tryz.prog.funcNamed "marquetry/marquetrykeep.VmRests"=some 3 by kernel_rfl).symm.trans e) |>.symm
 obtain rfl:a=Tryz.f3:=(Option.some.inj (Tryz.func3.symm.trans d)).symm
 refine⟨by kernel_rfl,fun j t b=>?_⟩
 rw[Tryz.params3]at b
 have g:t∈[22,3]:=by simpa using Array.mem_of_getElem? b
 have c:([22,3].all fun u=>!Tryz.prog.wantsStandIn u)=true:=by kernel_rfl
 exact(show Tryz.prog.wantsStandIn t=false by simpa using List.all_eq_true.1 c t g)
end Go.Proofs.YtbkndnmglhghlaaGreatDoor.vmRests

namespace Go.Proofs.YtbkndnmglhghlaaGreatDoor
theorem vmRests_card:Rows.VmRestsCardSaid :=
 Claim7.holds_tied_plain_at .later [] _ _ _ _ vmRests.said (fun _ h=>by cases h) (by kernel_rfl) (fun _ h=>by cases h) vmRests_row_tie rfl ⟨rfl,rfl⟩ (by kernel_rfl) rfl vmRests.plain (by kernel_rfl)
end Go.Proofs.YtbkndnmglhghlaaGreatDoor
