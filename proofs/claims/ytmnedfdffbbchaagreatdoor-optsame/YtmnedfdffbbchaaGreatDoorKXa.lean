import Derived.Test.YtmnedfdffbbchaaGreatDoorKJa
import Derived.LaidEql
import Derived.RowKitTokens
import Derived.Stop.Asserts
set_option maxRecDepth 100000
set_option maxHeartbeats 4000000

namespace Go.Proofs.YtmnedfdffbbchaaGreatDoor.Jo
open Go.RowKit Go.Extern.Stop Go.Stop Go.Extern
theorem rl_valueP (t:Addr) (w:World):(ReflectliteValue.unpack (.iface 74 (.pointer (some t)))).run Tryz.prog w
  = .ok (.agg #[.pointer (some ⟨5,74,none⟩),.pointer (some ⟨w.heap.size,0,none⟩),.int .u64 150]) (w.alloc (.cells #[.pointer (some t)] 74)):=by kernel_rfl
theorem rl_valueE (n:Int) (w:World):(ReflectliteValue.unpack (.iface 30 (.int .i64 n))).run Tryz.prog w
  = .ok (.agg #[.pointer (some ⟨5,30,none⟩),.pointer (some ⟨w.heap.size,0,none⟩),.int .u64 130]) (w.alloc (.cells #[.int .i64 n] 30)):=by kernel_rfl
theorem rl_typeP (a:Addr) (w:World):(ReflectliteValue.methodAny (ReflectliteValue.valueError "reflectlite.Value.Type" 0) (fun t _ _ _=>ReflectliteType.toType t) #[.agg #[.pointer (some ⟨5,74,none⟩),.pointer (some a),.int .u64 150]]).run Tryz.prog w
  = .ok (.iface 156 (.agg #[.pointer (some ⟨5,74,none⟩)])) w:=by kernel_rfl
theorem rl_kindP (w:World):((ReflectliteType.abiMethod fun t=>(fun a:Nat=>Value.int IntKind.u8 (a:Int)) <$> Rtype.kind t) #[.pointer (some ⟨5,74,none⟩)]).run Tryz.prog w=.ok (.int .u8 22) w:=by kernel_rfl
theorem rl_kindE (w:World):((ReflectliteType.abiMethod fun t=>(fun a:Nat=>Value.int IntKind.u8 (a:Int)) <$> Rtype.kind t) #[.pointer (some ⟨5,30,none⟩)]).run Tryz.prog w=.ok (.int .u8 2) w:=by kernel_rfl
theorem rlm (z:Sem Value) (f:TypeId->Addr->Nat->Nat->Sem Value) (v:Value) :
  ReflectliteValue.method z f #[v]=(do match <- ReflectliteValue.parts v with|none=>z|some (t,a,fl)=>f t a fl (fl % 32)):=rfl
theorem ve (a:Addr) (w:World):(ReflectliteValue.parts (.agg #[.pointer (some ⟨5,74,none⟩),.pointer (some a),.int .u64 150])).run Tryz.prog w=.ok (some (74,a,150)) w:=by kernel_rfl
theorem rl_isNil (a p:Addr) (W:World) (ha:W.cell? a=some (.pointer (some p))) :
  (ReflectliteValue.method (ReflectliteValue.valueError "reflectlite.Value.IsNil" 0) ReflectliteValue.isNil #[.agg #[.pointer (some ⟨5,74,none⟩),.pointer (some a),.int .u64 150]]).run Tryz.prog W=.ok (.bool false) W:=by
 rw[rlm]
 simp only [Sem.run_bind,ve,Result.andThen]
 simp[ReflectliteValue.isNil,loadVar,isAgg,underlying,Tryz.underlying74,ha,Result.andThen]
theorem rl_elem (w:World):(ReflectliteType.method ReflectliteType.elem #[.agg #[.pointer (some ⟨5,74,none⟩)]]).run Tryz.prog w=.ok (.iface 156 (.agg #[.pointer (some ⟨5,30,none⟩)])) w:=by kernel_rfl
theorem x8 (w:World):(ReflectliteType.relation "Implements" ReflectliteType.implements_ #[.agg #[.pointer (some ⟨5,30,none⟩)],.iface 156 (.agg #[.pointer (some ⟨5,27,none⟩)])]).run Tryz.prog w=.ok (.bool true) w:=by kernel_rfl
theorem rl_typeOfE (n:Int) (w:World):(ReflectliteType.typeOf #[.iface 30 (.int .i64 n)]).run Tryz.prog w=.ok (.iface 156 (.agg #[.pointer (some ⟨5,30,none⟩)])) w:=by kernel_rfl
theorem rl_assignE (w:World):(ReflectliteType.relation "AssignableTo" ReflectliteType.assignableTo #[.agg #[.pointer (some ⟨5,30,none⟩)],.iface 156 (.agg #[.pointer (some ⟨5,30,none⟩)])]).run Tryz.prog w=.ok (.bool true) w:=by kernel_rfl
theorem rl_elemOf (w:World):(Rtype.elem? 74).run Tryz.prog w=.ok (some 30) w:=by kernel_rfl
theorem rl_mk (p:Addr) (w:World):(ReflectliteValue.mk 30 p ReflectliteValue.flagAddr).run Tryz.prog w=.ok (.agg #[.pointer (some ⟨5,30,none⟩),.pointer (some p),.int .u64 386]) w:=by kernel_rfl
theorem rl_elemV (a p:Addr) (W:World) (ha:W.cell? a=some (.pointer (some p))) :
  (ReflectliteValue.method (ReflectliteValue.valueError "reflectlite.Value.Elem" 0) ReflectliteValue.elem #[.agg #[.pointer (some ⟨5,74,none⟩),.pointer (some a),.int .u64 150]]).run Tryz.prog W
   = .ok (.agg #[.pointer (some ⟨5,30,none⟩),.pointer (some p),.int .u64 386]) W:=by
 rw[rlm]
 simp only [Sem.run_bind,ve,Result.andThen]
 simp[ReflectliteValue.elem,loadVar,isAgg,underlying,Tryz.underlying74,ha,Result.andThen,rl_elemOf,rl_mk]
theorem rl_partsA (a:Addr) (w:World):(ReflectliteValue.parts (.agg #[.pointer (some ⟨5,30,none⟩),.pointer (some a),.int .u64 386])).run Tryz.prog w=.ok (some (30,a,386)) w:=by kernel_rfl
theorem rl_partsE (a:Addr) (w:World):(ReflectliteValue.parts (.agg #[.pointer (some ⟨5,30,none⟩),.pointer (some a),.int .u64 130])).run Tryz.prog w=.ok (some (30,a,130)) w:=by kernel_rfl
theorem rl_direct (w:World):(Rtype.directlyAssignable 30 30).run Tryz.prog w=.ok true w:=by kernel_rfl
theorem rl_set (ta b:Addr) (n:Int) (old:Value) (W:World) (hb:W.cell? b=some (.int .i64 n)) (ht:W.cell? ta=some old) (hf:W.frozen? ta=false) :
  (ReflectliteValue.set #[.agg #[.pointer (some ⟨5,30,none⟩),.pointer (some ta),.int .u64 386],.agg #[.pointer (some ⟨5,30,none⟩),.pointer (some b),.int .u64 130]]).run Tryz.prog W
   = .ok (.tuple #[]) (W.setCell ta (.int .i64 n)):=by
 refine Eq.trans (congrArg (fun s:Sem Value=>s.run Tryz.prog W) (show ReflectliteValue.set #[.agg #[.pointer (some ⟨5,30,none⟩),.pointer (some ta),.int .u64 386],.agg #[.pointer (some ⟨5,30,none⟩),.pointer (some b),.int .u64 130]]=(ReflectliteValue.parts (.agg #[.pointer (some ⟨5,30,none⟩),.pointer (some ta),.int .u64 386]) >>= fun p=>ReflectliteValue.parts (.agg #[.pointer (some ⟨5,30,none⟩),.pointer (some b),.int .u64 130]) >>= fun q=>_) from rfl)) ?_
 simp only [Sem.run_bind,rl_partsA,rl_partsE,Result.andThen]
 simp[ReflectliteValue.flagAddr,loadVar,isAgg,underlying,Tryz.underlying30,hb,Result.andThen,rl_direct,storeVar,Value.cells,storeCells,Addr.add]
 rw[run_store Tryz.prog W ta _ _ (by rfl)]
 simp[ht,hf]
theorem yI {w:World}{a:Addr}{v:Value}(h:w.cell? a=some v) (ob:Obj):(w.alloc ob).cell? a=some v:=by
 rw[World.cell?_alloc_lt _ _ _ (World.block_lt_of_cell? _ _ h)];exact h
theorem yH {b B:Nat}{w w':World}(h:Ext b w w') (hb:B<=b) (hB:B<=w.heap.size):Below B w w':=h.toBelow hb hB
theorem me_Kind (h:Value) (w:World):(Go.method 354 156 (.agg #[h]) "Kind").run Tryz.prog w=.ok (172,h) w:=by kernel_rfl
theorem me_Elem (h:Value) (w:World):(Go.method 354 156 (.agg #[h]) "Elem").run Tryz.prog w=.ok (182,.agg #[h]) w:=by kernel_rfl
theorem me_Impl (h:Value) (w:World):(Go.method 354 156 (.agg #[h]) "Implements").run Tryz.prog w=.ok (183,.agg #[h]) w:=by kernel_rfl
theorem me_Assign (h:Value) (w:World):(Go.method 354 156 (.agg #[h]) "AssignableTo").run Tryz.prog w=.ok (180,.agg #[h]) w:=by kernel_rfl
theorem as_en (n:Int) (t:Addr) (old:Value) (w:World) (hg:w.cell? ⟨0,0,none⟩=some (.iface 156 (.agg #[.pointer (some ⟨5,27,none⟩)]))) (ht0:w.cell? t=some old) (hf0:w.frozen? t=false) :
  Calls Tryz.prog 28 #[.iface 30 (.int .i64 n),.iface 74 (.pointer (some t))] w fun ev w'=>ev=.returned (.bool true)/\w'=((((w.alloc (.cells #[.pointer (some t)] 74)).alloc (.cells #[.pointer (some ⟨5,74,none⟩),.pointer (some ⟨w.heap.size,0,none⟩),.int .u64 150] 128)).alloc (.cells #[.pointer (some ⟨5,74,none⟩),.pointer (some ⟨w.heap.size,0,none⟩),.int .u64 150] 128)).alloc (.cells #[.int .i64 n] 30)).setCell t (.int .i64 n):=by
 have h6:=@run_callFunc_extern Tryz.prog 71 _ (fun args=>ReflectliteValue.unpack (args.getD 0 (.tuple #[]))) Tryz.func71 (by kernel_rfl) (by kernel_rfl) (by kernel_rfl) (by kernel_rfl)
 have h7:=@run_callFunc_extern Tryz.prog 72 _ (ReflectliteValue.methodAny (ReflectliteValue.valueError "reflectlite.Value.Type" 0) (fun t _ _ _=>ReflectliteType.toType t)) Tryz.func72 (by kernel_rfl) (by kernel_rfl) (by kernel_rfl) (by kernel_rfl)
 have h8:=@run_callFunc_extern Tryz.prog 73 _ (ReflectliteValue.method (ReflectliteValue.valueError "reflectlite.Value.IsNil" 0) ReflectliteValue.isNil) Tryz.func73 (by kernel_rfl) (by kernel_rfl) (by kernel_rfl) (by kernel_rfl)
 have h27:=@run_callFunc_extern Tryz.prog 172 _ (ReflectliteType.abiMethod fun t=>do pure (.int .u8 (<- Rtype.kind t))) Tryz.func172 (by kernel_rfl) (by kernel_rfl) (by kernel_rfl) (by kernel_rfl)
 have h37:=@run_callFunc_extern Tryz.prog 182 _ (ReflectliteType.method ReflectliteType.elem) Tryz.func182 (by kernel_rfl) (by kernel_rfl) (by kernel_rfl) (by kernel_rfl)
 have h38:=@run_callFunc_extern Tryz.prog 183 _ (ReflectliteType.relation "Implements" ReflectliteType.implements_) Tryz.func183 (by kernel_rfl) (by kernel_rfl) (by kernel_rfl) (by kernel_rfl)
 have h10:=@run_callFunc_extern Tryz.prog 100 _ ReflectliteType.typeOf Tryz.func100 (by kernel_rfl) (by kernel_rfl) (by kernel_rfl) (by kernel_rfl)
 have h35:=@run_callFunc_extern Tryz.prog 180 _ (ReflectliteType.relation "AssignableTo" ReflectliteType.assignableTo) Tryz.func180 (by kernel_rfl) (by kernel_rfl) (by kernel_rfl) (by kernel_rfl)
 have h11:=@run_callFunc_extern Tryz.prog 101 _ (ReflectliteValue.method (ReflectliteValue.valueError "reflectlite.Value.Elem" 0) ReflectliteValue.elem) Tryz.func101 (by kernel_rfl) (by kernel_rfl) (by kernel_rfl) (by kernel_rfl)
 have h12:=@run_callFunc_extern Tryz.prog 102 _ ReflectliteValue.set Tryz.func102 (by kernel_rfl) (by kernel_rfl) (by kernel_rfl) (by kernel_rfl)
 have tO:=rl_typeOfE
 have mA:=me_Assign
 have a25:=rl_assignE
 have v25:=rl_valueE
 have f6:=rl_valueP
 have f7:=rl_typeP
 have mK:=me_Kind
 have mE:=me_Elem
 have mI:=me_Impl
 have k27:=rl_kindP
 have k25:=rl_kindE
 have e27:=rl_elem
 have i25:=x8
 have n8:=rl_isNil ⟨w.heap.size,0,none⟩ t ((w.alloc (.cells #[.pointer (some t)] 74)).alloc (.cells #[.pointer (some ⟨5,74,none⟩),.pointer (some ⟨w.heap.size,0,none⟩),.int .u64 150] 128)) (by simp)
 have hlt:0<w.heap.size:=zi hg
 have hg2:((w.alloc (.cells #[.pointer (some t)] 74)).alloc (.cells #[.pointer (some ⟨5,74,none⟩),.pointer (some ⟨w.heap.size,0,none⟩),.int .u64 150] 128)).cell? ⟨0,0,none⟩=some (.iface 156 (.agg #[.pointer (some ⟨5,27,none⟩)])):=by
  rw[World.cell?_alloc_lt _ _ ⟨0,0,none⟩ (by simp <;> omega),World.cell?_alloc_lt _ _ ⟨0,0,none⟩ hlt];exact hg
 have htl:t.block<w.heap.size:=World.block_lt_of_cell? _ _ ht0
 have el:=rl_elemV ⟨w.heap.size,0,none⟩ t (((w.alloc (.cells #[.pointer (some t)] 74)).alloc (.cells #[.pointer (some ⟨5,74,none⟩),.pointer (some ⟨w.heap.size,0,none⟩),.int .u64 150] 128)).alloc (.cells #[.pointer (some ⟨5,74,none⟩),.pointer (some ⟨w.heap.size,0,none⟩),.int .u64 150] 128)) (by rw[World.cell?_alloc_lt _ _ ⟨w.heap.size,0,none⟩ (by simp;omega)];simp)
 have st:=rl_set t ⟨w.heap.size+1+1+1,0,none⟩ n old ((((w.alloc (.cells #[.pointer (some t)] 74)).alloc (.cells #[.pointer (some ⟨5,74,none⟩),.pointer (some ⟨w.heap.size,0,none⟩),.int .u64 150] 128)).alloc (.cells #[.pointer (some ⟨5,74,none⟩),.pointer (some ⟨w.heap.size,0,none⟩),.int .u64 150] 128)).alloc (.cells #[.int .i64 n] 30))
  (by rw[World.cell?_alloc_at _ _ _ _ (by simp)];rfl)
  (by rw[World.cell?_alloc_lt _ _ t (by simp;omega),World.cell?_alloc_lt _ _ t (by simp;omega),World.cell?_alloc_lt _ _ t (by simp;omega),World.cell?_alloc_lt _ _ t htl];exact ht0)
  (by rw[World.frozen?_alloc_old _ _ t (by simp;omega),World.frozen?_alloc_old _ _ t (by simp;omega),World.frozen?_alloc_old _ _ t (by simp;omega),World.frozen?_alloc_old _ _ t (Nat.ne_of_lt htl)];exact hf0)
 go_enter Tryz.func28,Tryz.ntmps28
 go_wp2
 refine wp_loop_rounds 1 ?_
 rw[rounds_succ]
 go_wp2
 go_ret
 exact⟨rfl,rfl⟩
theorem ext_four (w:World) (t:Addr) (o1 o2 o3 o4:Obj) (v:Value):Ext t.block w (((((w.alloc o1).alloc o2).alloc o3).alloc o4).setCell t v):=by
 have h:Below w.heap.size w ((((w.alloc o1).alloc o2).alloc o3).alloc o4):=(((zb _ _).alloc (by simp) _).alloc (by simp;omega) _).alloc (by simp;omega) _
 refine⟨h.os,h.tape,h.output,by simpa using h.size,fun k hk hb=>?_⟩
 rw[Below.heap_setCell _ _ _ _ hb]
 exact h.block k hk
theorem tell_en (n:Int) (w:World) (hg:w.cell? ⟨0,0,none⟩=some (.iface 156 (.agg #[.pointer (some ⟨5,27,none⟩)]))) :
  Calls Tryz.prog 8 #[.iface 30 (.int .i64 n)] w fun e w'=>e=.returned (.int .i64 n)/\Below w.heap.size w w':=by
 obtain⟨w0,hw0⟩:∃ w0,w0=w.alloc (.cells #[.int .i64 0] 30):=⟨_,rfl⟩
 have hb0:Below w.heap.size w w0:=by rw[hw0];exact zb _ _
 have hk0:w0.heap[w.heap.size]?=some (.cells #[.int .i64 0] 30 (0,0)):=by rw[hw0];exact zw _ _
 have hg0:w0.cell? ⟨0,0,none⟩=some (.iface 156 (.agg #[.pointer (some ⟨5,27,none⟩)])):=by rw[hw0];exact yI hg _
 have HA:=zh (as_en n ⟨w.heap.size,0,none⟩ (.int .i64 0) w0 hg0 ((zc hk0).trans rfl) (zr hk0))
 have HB0:=zh hb0
 have HK0:=zh hk0
 clear hb0 hk0 hg0 hg
 go_enter Tryz.func8,Tryz.ntmps8
 go_upto_region 4 with fail
 rw[<-hw0]
 clear hw0
 go_wp2_with fail
 refine HA.out.mono ?_
 rintro e w3 ⟨rfl,hw3⟩
 have hx:Ext w.heap.size w0 w3:=by rw[hw3];exact ext_four w0 ⟨w.heap.size,0,none⟩ _ _ _ _ _
 have hc:w3.cell? ⟨w.heap.size,0,none⟩=some (.int .i64 n):=by
  rw[hw3]
  exact World.cell?_setCell_same _ _ _ (yI (yI (yI (yI ((zc HK0.out).trans rfl) _) _) _) _)
 have HB3:Hid (Below w.heap.size w w3):=HB0.out.trans (yH hx zn HB0.out.size)
 have hl3:w.heap.size<w3.heap.size:=zi hc
 clear hw3 hx
 go_wp2_with fail
 go_ret
 exact⟨rfl,HB3.out⟩
end Go.Proofs.YtmnedfdffbbchaaGreatDoor.Jo
