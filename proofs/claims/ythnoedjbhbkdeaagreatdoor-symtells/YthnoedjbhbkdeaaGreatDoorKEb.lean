/- SymTells: what others see of any module, what it uses of another one, how that is written, and its sums, are as the document has them: for every two texts and list of texts the call returns true. -/
import Derived.Test.YthnoedjbhbkdeaaGreatDoorKEa
import Derived.Test.YthnoedjbhbkdeaaGreatDoorCards
import Derived.Test.YthnoedjbhbkdeaaGreatDoorTie
import Derived.Deep.DeepHandedRow
import Derived.SliceStrings
set_option maxRecDepth 100000
set_option maxHeartbeats 4000000
namespace Go.Proofs.YthnoedjbhbkdeaaGreatDoor.symTells
open Go.ChangeShapes Go.WideShapes Go.ChangeAt Go.RowKit
open Go.ChangeMaps (open_string shut_string)
open Go.Proofs.YthnoedjbhbkdeaaGreatDoor
theorem own:ownKnob Tryz.prog.godebug=none:=by kernel_rfl
theorem laidOut:laidOutB Tryz.prog=true:=by kernel_rfl
theorem strs_at {H:Type}{enc:TypeId× Value->H}{W:World}{a:Option Addr}{n c:Nat}{d:DataW H}{p:List MemPlace}(h:DataW.Trod enc Tryz.prog W 0 (fun _=>true) true 22 (.slice a n c) d p):∃ ns:List (List UInt8),ns.length=n/\StrsAt W ns a:=by
 obtain⟨fuel,hf⟩:=h
 rcases open_strings Tryz.underlying22 Tryz.underlying9 cString hf with⟨hcs,_⟩|⟨ad,len,cap,zs,hcs,_,hl,_,hz,_,hc,_⟩
 ·simp[Value.cells]at hcs
  obtain⟨rfl,rfl,rfl⟩:=hcs
  exact⟨[],rfl,⟨fun i hi=>by simp at hi⟩⟩
 ·simp[Value.cells]at hcs
  obtain⟨rfl,rfl,rfl⟩:=hcs
  simp only [if_true]at hz
  refine⟨(zs.take n).map (fun z=>z.data.toList),by rw[List.length_map,List.length_take];omega,⟨fun i hi=>?_⟩⟩
  rw[List.length_map,List.length_take]at hi
  have h0:=hc 0 (by omega)
  have h1:=hc i (by omega)
  obtain⟨b,o,sp⟩:=ad
  have hsp:sp=none:=by
   cases sp with
   | none=>rfl
   | some k=>simp[World.cell?,Addr.add]at h0;split at h0 <;> simp_all
  subst hsp
  refine⟨b,o,rfl,World.block_lt_of_cell? _ _ h0,?_⟩
  have:bs (((zs.take n).map (fun z:ByteArray=>z.data.toList))[i]'(by rw[List.length_map,List.length_take];omega))=zs.getD i ByteArray.empty:=by simp[List.getD,show i<zs.length by omega,bs]
  rw[this,<-h1,Addr.add_lit]
theorem contract (H:Type) (enc:TypeId× Value->H) (W:World) (base:Nat) (args:Array Value) (ds gs:List (DataW H)) (before:List MemPlace)
  (hval:∀(j:Nat) t v,Tryz.f4.params[j]?=some t->args[j]?=some v->Value.okWide Tryz.prog W .any base t v)
  (hW:DataW.Whole enc Tryz.prog Tryz.f4.params.toList Rows.symTellsSpec.vars false W args.toList ds gs before) (hL:laidMetH Tryz.prog Rows.symTellsRow.laid W) (hS:W.ShapedOpen Tryz.prog) :
  Calls Tryz.prog 4 args W fun e W'=>∃ v,e=.returned v/\Rows.symTellsSpec.post enc Tryz.prog Tryz.f4 false true false false W args v W':=by
 have hW':=hW
 obtain⟨p,q,hA0,hV,rfl,hfz,hnd⟩:=hW
 have hA:DataW.TrodAll enc Tryz.prog W 0 (fun _=>true) true Tryz.f4.params.toList args.toList ds p:=hA0
 rw[Tryz.params4]at hA hval
 obtain⟨v0,vs0,d0,ds0,p0,q0,hargs,rfl,rfl,h0,r0⟩:=trodAll_cons hA
 obtain⟨v1,vs1,d1,ds1,p1,q1,hargs1,rfl,rfl,h1,r1⟩:=trodAll_cons r0
 obtain⟨v2,vs2,d2,ds2,p2,q2,hargs2,rfl,rfl,h2,r2⟩:=trodAll_cons r1
 obtain⟨rfl,rfl,rfl⟩:=trodAll_nil r2
 obtain rfl:args=#[v0,v1,v2]:=by cases args;simp_all
 obtain⟨rfl,rfl⟩:=trodVars_none hV
 obtain⟨s,rfl,rfl,rfl,hs⟩:=open_string Tryz.underlying9 (hval 0 9 v0 rfl rfl) h0
 obtain⟨s2,rfl,rfl,rfl,hs2⟩:=open_string Tryz.underlying9 (hval 1 9 v1 rfl rfl) h1
 obtain⟨a,n,c,rfl⟩:=okWide_slice Tryz.underlying22 (hval 2 22 v2 rfl rfl)
 obtain⟨xs,hxl,hnum⟩:=strs_at h2
 clear hA0
 simp only [List.append_nil,List.nil_append]at hW'
 have hlt:∀ x∈p2,x.block<W.heap.size:=fun x hx=>by simpa using hW'.lt x (by simpa using hx)
 obtain⟨hg1,hg2,hg3,hg4⟩:=vars_ofS hL hS
 refine(xu s s2 xs a n c hxl W hnum hg1 hg2 hg3 hg4).mono fun e W' ⟨he,hg⟩=>?_
 subst he
 exact⟨_,rfl,_,_,_,[],[]++([]++(p2++[])),[],hW',trodAll_cons_mk (shut_bool Tryz.underlying4 _) trodAll_mk0,trodAll_cons_mk (shut_string Tryz.underlying9 hs) (trodAll_cons_mk (shut_string Tryz.underlying9 hs2) (trodAll_cons_mk (Below.trod laidOut (by kernel_rfl) (of_decide_eq_true (by kernel_rfl)) h2 hg hlt) trodAll_mk0)),rfl,hg.frame _,fun h=>by cases h⟩
theorem laid_met (os:Os):laidMetH Tryz.prog Rows.symTellsRow.laid (({ (World.holding Tryz.prog os ⟨#[],#[],[]⟩) with heap:=(((((((((((((World.holding Tryz.prog os ⟨#[],#[],[]⟩).heap.modify 11 fun | .cells _ t frozen=>.cells #[.int .u8 0,.int .u8 1,.int .u8 28,.int .u8 2,.int .u8 29,.int .u8 14,.int .u8 24,.int .u8 3,.int .u8 30,.int .u8 22,.int .u8 20,.int .u8 15,.int .u8 25,.int .u8 17,.int .u8 4,.int .u8 8,.int .u8 31,.int .u8 27,.int .u8 13,.int .u8 23,.int .u8 21,.int .u8 19,.int .u8 16,.int .u8 7,.int .u8 26,.int .u8 12,.int .u8 18,.int .u8 6,.int .u8 11,.int .u8 5,.int .u8 10,.int .u8 9] t frozen|o=>o).modify 12 fun | .cells _ t frozen=>.cells #[.int .u8 0,.int .u8 1,.int .u8 56,.int .u8 2,.int .u8 57,.int .u8 49,.int .u8 28,.int .u8 3,.int .u8 61,.int .u8 58,.int .u8 42,.int .u8 50,.int .u8 38,.int .u8 29,.int .u8 17,.int .u8 4,.int .u8 62,.int .u8 47,.int .u8 59,.int .u8 36,.int .u8 45,.int .u8 43,.int .u8 51,.int .u8 22,.int .u8 53,.int .u8 39,.int .u8 33,.int .u8 30,.int .u8 24,.int .u8 18,.int .u8 12,.int .u8 5,.int .u8 63,.int .u8 55,.int .u8 48,.int .u8 27,.int .u8 60,.int .u8 41,.int .u8 37,.int .u8 16,.int .u8 46,.int .u8 35,.int .u8 44,.int .u8 21,.int .u8 52,.int .u8 32,.int .u8 23,.int .u8 11,.int .u8 54,.int .u8 26,.int .u8 40,.int .u8 15,.int .u8 34,.int .u8 20,.int .u8 31,.int .u8 10,.int .u8 25,.int .u8 14,.int .u8 19,.int .u8 9,.int .u8 13,.int .u8 8,.int .u8 7,.int .u8 6] t frozen|o=>o).modify 8 fun | .cells _ t frozen=>.cells #[.int .u64 1,.int .u64 10,.int .u64 100,.int .u64 1000,.int .u64 10000,.int .u64 100000,.int .u64 1000000,.int .u64 10000000,.int .u64 100000000,.int .u64 1000000000,.int .u64 10000000000,.int .u64 100000000000,.int .u64 1000000000000,.int .u64 10000000000000,.int .u64 100000000000000,.int .u64 1000000000000000,.int .u64 10000000000000000,.int .u64 100000000000000000,.int .u64 1000000000000000000,.int .u64 10000000000000000000] t frozen|o=>o).modify 7 fun | .cells _ t frozen=>.cells #[.iface 303 (.pointer (some ⟨(World.holding Tryz.prog os ⟨#[],#[],[]⟩).heap.size,0,none⟩))] t frozen|o=>o).modify 6 fun | .cells _ t frozen=>.cells #[.iface 303 (.pointer (some ⟨(World.holding Tryz.prog os ⟨#[],#[],[]⟩).heap.size+1,0,none⟩))] t frozen|o=>o).modify 0 fun | .cells _ t frozen=>.cells #[.int .i64 0,.int .i64 (-1)] t frozen|o=>o).modify 2 fun | .cells _ t frozen=>.cells #[.string ⟨#[111,114]⟩,.string ⟨#[97,110,100]⟩,.string ⟨#[61,32,35,32,60,32,60,61,32,62,32,62,61]⟩,.string ⟨#[43,32,45]⟩,.string ⟨#[42,32,100,105,118,32,109,111,100]⟩] t frozen|o=>o).modify 5 fun | .cells _ t frozen=>.cells #[.string ⟨#[111,114]⟩,.int .i64 0,.string ⟨#[97,110,100]⟩,.int .i64 1,.string ⟨#[61]⟩,.int .i64 2,.string ⟨#[35]⟩,.int .i64 2,.string ⟨#[60]⟩,.int .i64 2,.string ⟨#[60,61]⟩,.int .i64 2,.string ⟨#[62]⟩,.int .i64 2,.string ⟨#[62,61]⟩,.int .i64 2,.string ⟨#[43]⟩,.int .i64 3,.string ⟨#[45]⟩,.int .i64 3,.string ⟨#[42]⟩,.int .i64 4,.string ⟨#[100,105,118]⟩,.int .i64 4,.string ⟨#[109,111,100]⟩,.int .i64 4] t frozen|o=>o).modify 1 fun | .cells _ t frozen=>.cells #[.string ⟨#[58,61]⟩,.string ⟨#[60,61]⟩,.string ⟨#[62,61]⟩,.string ⟨#[35]⟩,.string ⟨#[61]⟩,.string ⟨#[60]⟩,.string ⟨#[62]⟩,.string ⟨#[43]⟩,.string ⟨#[45]⟩,.string ⟨#[42]⟩,.string ⟨#[40]⟩,.string ⟨#[41]⟩,.string ⟨#[91]⟩,.string ⟨#[93]⟩,.string ⟨#[44]⟩,.string ⟨#[59]⟩,.string ⟨#[58]⟩,.string ⟨#[46]⟩] t frozen|o=>o).modify 4 fun | .cells _ t frozen=>.cells #[.iface 222 (.agg #[.pointer (some ⟨13,34,none⟩)])] t frozen|o=>o).push (.cells #[.string ⟨#[118,97,108,117,101,32,111,117,116,32,111,102,32,114,97,110,103,101]⟩] 305)).push (.cells #[.string ⟨#[105,110,118,97,108,105,100,32,115,121,110,116,97,120]⟩] 305)) }:World).forCall (fun _ _=>0) ⟨#[],#[.string ⟨#[]⟩,.string ⟨#[]⟩,.slice none 0 0],[]⟩).memory :=
 laidMetH_of_parts (laidMet_of_run' 8 (by kernel_rfl) (by kernel_rfl)) (by kernel_rfl)
theorem reads (os:Os) {H:Type}(enc:TypeId× Value->H):∃ places,DataW.whole enc Tryz.prog (({ (World.holding Tryz.prog os ⟨#[],#[],[]⟩) with heap:=(((((((((((((World.holding Tryz.prog os ⟨#[],#[],[]⟩).heap.modify 11 fun | .cells _ t frozen=>.cells #[.int .u8 0,.int .u8 1,.int .u8 28,.int .u8 2,.int .u8 29,.int .u8 14,.int .u8 24,.int .u8 3,.int .u8 30,.int .u8 22,.int .u8 20,.int .u8 15,.int .u8 25,.int .u8 17,.int .u8 4,.int .u8 8,.int .u8 31,.int .u8 27,.int .u8 13,.int .u8 23,.int .u8 21,.int .u8 19,.int .u8 16,.int .u8 7,.int .u8 26,.int .u8 12,.int .u8 18,.int .u8 6,.int .u8 11,.int .u8 5,.int .u8 10,.int .u8 9] t frozen|o=>o).modify 12 fun | .cells _ t frozen=>.cells #[.int .u8 0,.int .u8 1,.int .u8 56,.int .u8 2,.int .u8 57,.int .u8 49,.int .u8 28,.int .u8 3,.int .u8 61,.int .u8 58,.int .u8 42,.int .u8 50,.int .u8 38,.int .u8 29,.int .u8 17,.int .u8 4,.int .u8 62,.int .u8 47,.int .u8 59,.int .u8 36,.int .u8 45,.int .u8 43,.int .u8 51,.int .u8 22,.int .u8 53,.int .u8 39,.int .u8 33,.int .u8 30,.int .u8 24,.int .u8 18,.int .u8 12,.int .u8 5,.int .u8 63,.int .u8 55,.int .u8 48,.int .u8 27,.int .u8 60,.int .u8 41,.int .u8 37,.int .u8 16,.int .u8 46,.int .u8 35,.int .u8 44,.int .u8 21,.int .u8 52,.int .u8 32,.int .u8 23,.int .u8 11,.int .u8 54,.int .u8 26,.int .u8 40,.int .u8 15,.int .u8 34,.int .u8 20,.int .u8 31,.int .u8 10,.int .u8 25,.int .u8 14,.int .u8 19,.int .u8 9,.int .u8 13,.int .u8 8,.int .u8 7,.int .u8 6] t frozen|o=>o).modify 8 fun | .cells _ t frozen=>.cells #[.int .u64 1,.int .u64 10,.int .u64 100,.int .u64 1000,.int .u64 10000,.int .u64 100000,.int .u64 1000000,.int .u64 10000000,.int .u64 100000000,.int .u64 1000000000,.int .u64 10000000000,.int .u64 100000000000,.int .u64 1000000000000,.int .u64 10000000000000,.int .u64 100000000000000,.int .u64 1000000000000000,.int .u64 10000000000000000,.int .u64 100000000000000000,.int .u64 1000000000000000000,.int .u64 10000000000000000000] t frozen|o=>o).modify 7 fun | .cells _ t frozen=>.cells #[.iface 303 (.pointer (some ⟨(World.holding Tryz.prog os ⟨#[],#[],[]⟩).heap.size,0,none⟩))] t frozen|o=>o).modify 6 fun | .cells _ t frozen=>.cells #[.iface 303 (.pointer (some ⟨(World.holding Tryz.prog os ⟨#[],#[],[]⟩).heap.size+1,0,none⟩))] t frozen|o=>o).modify 0 fun | .cells _ t frozen=>.cells #[.int .i64 0,.int .i64 (-1)] t frozen|o=>o).modify 2 fun | .cells _ t frozen=>.cells #[.string ⟨#[111,114]⟩,.string ⟨#[97,110,100]⟩,.string ⟨#[61,32,35,32,60,32,60,61,32,62,32,62,61]⟩,.string ⟨#[43,32,45]⟩,.string ⟨#[42,32,100,105,118,32,109,111,100]⟩] t frozen|o=>o).modify 5 fun | .cells _ t frozen=>.cells #[.string ⟨#[111,114]⟩,.int .i64 0,.string ⟨#[97,110,100]⟩,.int .i64 1,.string ⟨#[61]⟩,.int .i64 2,.string ⟨#[35]⟩,.int .i64 2,.string ⟨#[60]⟩,.int .i64 2,.string ⟨#[60,61]⟩,.int .i64 2,.string ⟨#[62]⟩,.int .i64 2,.string ⟨#[62,61]⟩,.int .i64 2,.string ⟨#[43]⟩,.int .i64 3,.string ⟨#[45]⟩,.int .i64 3,.string ⟨#[42]⟩,.int .i64 4,.string ⟨#[100,105,118]⟩,.int .i64 4,.string ⟨#[109,111,100]⟩,.int .i64 4] t frozen|o=>o).modify 1 fun | .cells _ t frozen=>.cells #[.string ⟨#[58,61]⟩,.string ⟨#[60,61]⟩,.string ⟨#[62,61]⟩,.string ⟨#[35]⟩,.string ⟨#[61]⟩,.string ⟨#[60]⟩,.string ⟨#[62]⟩,.string ⟨#[43]⟩,.string ⟨#[45]⟩,.string ⟨#[42]⟩,.string ⟨#[40]⟩,.string ⟨#[41]⟩,.string ⟨#[91]⟩,.string ⟨#[93]⟩,.string ⟨#[44]⟩,.string ⟨#[59]⟩,.string ⟨#[58]⟩,.string ⟨#[46]⟩] t frozen|o=>o).modify 4 fun | .cells _ t frozen=>.cells #[.iface 222 (.agg #[.pointer (some ⟨13,34,none⟩)])] t frozen|o=>o).push (.cells #[.string ⟨#[118,97,108,117,101,32,111,117,116,32,111,102,32,114,97,110,103,101]⟩] 305)).push (.cells #[.string ⟨#[105,110,118,97,108,105,100,32,115,121,110,116,97,120]⟩] 305)) }:World).forCall (fun _ _=>0) ⟨#[],#[.string ⟨#[]⟩,.string ⟨#[]⟩,.slice none 0 0],[]⟩).memory Tryz.f4.params.toList Rows.symTellsSpec.vars false #[Value.string ⟨#[]⟩,Value.string ⟨#[]⟩,Value.slice none 0 0].toList 8=some ([.lit (.string []),.lit (.string []),.nil],[],places) :=
 ⟨[],by kernel_rfl⟩
theorem lifted (os:Os) (started:os.Started) (H:Type) (enc:TypeId× Value->H) (F:Stop.Interp) :
  ReturnsInHanded {} Tryz.checked os 4 .any ((OpenSpec.ofChange Rows.symTellsSpec).preRow enc Tryz.prog Tryz.f4 Rows.symTellsRow.domain false Rows.symTellsRow.laid) (((OpenSpec.ofChange Rows.symTellsSpec).at F).post enc Tryz.prog Tryz.f4 false true false false):=by
 obtain⟨places,hx⟩:=reads os enc
 refine returnsInHanded_of_row (C:=Tryz.checked) (s:=OpenSpec.ofChange Rows.symTellsSpec) own started (by kernel_rfl) Tryz.func4
  (witness_row_at (enc:=enc) (C:=Tryz.checked) false { (World.holding Tryz.prog os ⟨#[],#[],[]⟩) with heap:=(((((((((((((World.holding Tryz.prog os ⟨#[],#[],[]⟩).heap.modify 11 fun | .cells _ t frozen=>.cells #[.int .u8 0,.int .u8 1,.int .u8 28,.int .u8 2,.int .u8 29,.int .u8 14,.int .u8 24,.int .u8 3,.int .u8 30,.int .u8 22,.int .u8 20,.int .u8 15,.int .u8 25,.int .u8 17,.int .u8 4,.int .u8 8,.int .u8 31,.int .u8 27,.int .u8 13,.int .u8 23,.int .u8 21,.int .u8 19,.int .u8 16,.int .u8 7,.int .u8 26,.int .u8 12,.int .u8 18,.int .u8 6,.int .u8 11,.int .u8 5,.int .u8 10,.int .u8 9] t frozen|o=>o).modify 12 fun | .cells _ t frozen=>.cells #[.int .u8 0,.int .u8 1,.int .u8 56,.int .u8 2,.int .u8 57,.int .u8 49,.int .u8 28,.int .u8 3,.int .u8 61,.int .u8 58,.int .u8 42,.int .u8 50,.int .u8 38,.int .u8 29,.int .u8 17,.int .u8 4,.int .u8 62,.int .u8 47,.int .u8 59,.int .u8 36,.int .u8 45,.int .u8 43,.int .u8 51,.int .u8 22,.int .u8 53,.int .u8 39,.int .u8 33,.int .u8 30,.int .u8 24,.int .u8 18,.int .u8 12,.int .u8 5,.int .u8 63,.int .u8 55,.int .u8 48,.int .u8 27,.int .u8 60,.int .u8 41,.int .u8 37,.int .u8 16,.int .u8 46,.int .u8 35,.int .u8 44,.int .u8 21,.int .u8 52,.int .u8 32,.int .u8 23,.int .u8 11,.int .u8 54,.int .u8 26,.int .u8 40,.int .u8 15,.int .u8 34,.int .u8 20,.int .u8 31,.int .u8 10,.int .u8 25,.int .u8 14,.int .u8 19,.int .u8 9,.int .u8 13,.int .u8 8,.int .u8 7,.int .u8 6] t frozen|o=>o).modify 8 fun | .cells _ t frozen=>.cells #[.int .u64 1,.int .u64 10,.int .u64 100,.int .u64 1000,.int .u64 10000,.int .u64 100000,.int .u64 1000000,.int .u64 10000000,.int .u64 100000000,.int .u64 1000000000,.int .u64 10000000000,.int .u64 100000000000,.int .u64 1000000000000,.int .u64 10000000000000,.int .u64 100000000000000,.int .u64 1000000000000000,.int .u64 10000000000000000,.int .u64 100000000000000000,.int .u64 1000000000000000000,.int .u64 10000000000000000000] t frozen|o=>o).modify 7 fun | .cells _ t frozen=>.cells #[.iface 303 (.pointer (some ⟨(World.holding Tryz.prog os ⟨#[],#[],[]⟩).heap.size,0,none⟩))] t frozen|o=>o).modify 6 fun | .cells _ t frozen=>.cells #[.iface 303 (.pointer (some ⟨(World.holding Tryz.prog os ⟨#[],#[],[]⟩).heap.size+1,0,none⟩))] t frozen|o=>o).modify 0 fun | .cells _ t frozen=>.cells #[.int .i64 0,.int .i64 (-1)] t frozen|o=>o).modify 2 fun | .cells _ t frozen=>.cells #[.string ⟨#[111,114]⟩,.string ⟨#[97,110,100]⟩,.string ⟨#[61,32,35,32,60,32,60,61,32,62,32,62,61]⟩,.string ⟨#[43,32,45]⟩,.string ⟨#[42,32,100,105,118,32,109,111,100]⟩] t frozen|o=>o).modify 5 fun | .cells _ t frozen=>.cells #[.string ⟨#[111,114]⟩,.int .i64 0,.string ⟨#[97,110,100]⟩,.int .i64 1,.string ⟨#[61]⟩,.int .i64 2,.string ⟨#[35]⟩,.int .i64 2,.string ⟨#[60]⟩,.int .i64 2,.string ⟨#[60,61]⟩,.int .i64 2,.string ⟨#[62]⟩,.int .i64 2,.string ⟨#[62,61]⟩,.int .i64 2,.string ⟨#[43]⟩,.int .i64 3,.string ⟨#[45]⟩,.int .i64 3,.string ⟨#[42]⟩,.int .i64 4,.string ⟨#[100,105,118]⟩,.int .i64 4,.string ⟨#[109,111,100]⟩,.int .i64 4] t frozen|o=>o).modify 1 fun | .cells _ t frozen=>.cells #[.string ⟨#[58,61]⟩,.string ⟨#[60,61]⟩,.string ⟨#[62,61]⟩,.string ⟨#[35]⟩,.string ⟨#[61]⟩,.string ⟨#[60]⟩,.string ⟨#[62]⟩,.string ⟨#[43]⟩,.string ⟨#[45]⟩,.string ⟨#[42]⟩,.string ⟨#[40]⟩,.string ⟨#[41]⟩,.string ⟨#[91]⟩,.string ⟨#[93]⟩,.string ⟨#[44]⟩,.string ⟨#[59]⟩,.string ⟨#[58]⟩,.string ⟨#[46]⟩] t frozen|o=>o).modify 4 fun | .cells _ t frozen=>.cells #[.iface 222 (.agg #[.pointer (some ⟨13,34,none⟩)])] t frozen|o=>o).push (.cells #[.string ⟨#[118,97,108,117,101,32,111,117,116,32,111,102,32,114,97,110,103,101]⟩] 305)).push (.cells #[.string ⟨#[105,110,118,97,108,105,100,32,115,121,110,116,97,120]⟩] 305)) } #[.string ⟨#[]⟩,.string ⟨#[]⟩,.slice none 0 0] rfl (by kernel_rfl) (by kernel_rfl) (by kernel_rfl)
   (OpenSpec.preRow_of_cond 8 hx (by kernel_rfl) (fun k hk=>by cases hk) (by kernel_rfl) (laid_met os))) ?_
 intro W base args ds gs before hval hW _ _ _ hL hS _
 exact contract H enc W base args ds gs before hval hW hL hS
theorem said:Rows.SymTellsSaid :=
 OpenClaim.holds_of_cond 4 Tryz.f4 rfl rfl rfl rfl rfl rfl rfl ⟨rfl,rfl,rfl,rfl,rfl⟩ rfl rfl rfl rfl rfl (by kernel_rfl) Tryz.func4 (by kernel_rfl)
  (of_decide_eq_true (by kernel_rfl)) (by unfold Func.isWrapper;first|(rw[if_pos (by decide +kernel)];kernel_rfl)|(rw[if_neg (by decide +kernel)];exact⟨rfl,rfl⟩))
  (fun os started H enc _ F=>by rw[OpenClaim.pre_eq_preRow];exact lifted os started H enc F)
theorem plain (f:FuncId) (fn:Func) (hf:Tryz.pinned.checked.prog.funcNamed "marquetry/marquetrylaw.SymTells"=some f) (hfn:Tryz.pinned.checked.prog.funcs[f]?=some fn) :
  true=Tryz.pinned.checked.prog.looks []/\∀(j:Nat) t,fn.params[j]?=some t->Tryz.pinned.checked.prog.wantsStandIn t=false:=by
 obtain rfl:f=4:=Option.some.inj ((show Tryz.prog.funcNamed "marquetry/marquetrylaw.SymTells"=some 4 by kernel_rfl).symm.trans hf) |>.symm
 obtain rfl:fn=Tryz.f4:=(Option.some.inj (Tryz.func4.symm.trans hfn)).symm
 refine⟨by kernel_rfl,fun j t ht=>?_⟩
 rw[Tryz.params4]at ht
 have hm:t∈[9,9,22]:=by simpa using Array.mem_of_getElem? ht
 have hall:([9,9,22].all fun u=>!Tryz.prog.wantsStandIn u)=true:=by kernel_rfl
 exact(show Tryz.prog.wantsStandIn t=false by simpa using List.all_eq_true.1 hall t hm)
end Go.Proofs.YthnoedjbhbkdeaaGreatDoor.symTells
namespace Go.Proofs.YthnoedjbhbkdeaaGreatDoor
theorem symTells_card:Rows.SymTellsCardSaid :=
 Claim7.holds_tied_plain_at .later [] _ _ _ _ symTells.said (fun _ h=>by cases h) (by kernel_rfl) (fun _ h=>by cases h) symTells_row_tie rfl ⟨rfl,rfl⟩ (by kernel_rfl) rfl symTells.plain (by kernel_rfl)
end Go.Proofs.YthnoedjbhbkdeaaGreatDoor
