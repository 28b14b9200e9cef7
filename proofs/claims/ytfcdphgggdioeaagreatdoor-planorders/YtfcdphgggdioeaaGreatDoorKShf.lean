import Derived.Shelf.Lay
import Derived.Shelf.LaySoft
import Derived.Shelf.GgSortMore.Stable
import Derived.Shelf.GgSortFunc.SmallK
import Derived.Ground.GgtProg
import Derived.Test.YtfcdphgggdioeaaGreatDoorProg
/-
  DERIVED: THE SHELF's CONTRACTS AT THIS DUMP, IN PLAIN WORDS (tools/lay-plain.mjs out of 'YtfcdphgggdioeaaGreatDoorSh9.lean', which tools/lay-shelf.mjs wrote): THE SAME DECLARATIONS UNDER THE SAME NAMES: 'import', 'namespace', 'open', 'def', 'theorem' AND NOTHING ELSE: no command of the shelf's: FOR A HAND-IN. Each laying: the table of numbers ('.._ren') and one theorem, a field a fact of the dump's own or the kernel's comparison; each contract: ONE APPLICATION.
-/
namespace Go.Proofs
open Go.Shelf
def Tryz.laysSS_ren : Go.Shelf.Ren := ⟨fun | 8 => 60 | 13 => 83 | 14 => 84 | 16 => 86 | 15 => 85 | 29 => 122 | 30 => 123 | 42 => 141 | 49 => 155 | n => n, fun | 20 => 20 | 26 => 118 | 36 => 153 | 0 => 0 | 38 => 132 | 42 => 158 | 3 => 3 | 4 => 4 | 47 => 126 | 17 => 17 | 33 => 150 | 34 => 151 | 89 => 250 | 12 => 12 | 56 => 174 | 82 => 245 | 5 => 5 | 83 => 201 | 84 => 246 | 85 => 210 | 86 => 247 | 87 => 248 | n => n, fun | n => n⟩
theorem Tryz.laysSS : Go.Proofs.LaysGt.n8 Tryz.prog Tryz.laysSS_ren := {
  mixed := by kernel_rfl
  f8 := Tryz.func60.trans (congrArg some (by kernel_rfl))
  f13 := Tryz.func83.trans (congrArg some (by kernel_rfl))
  f14 := Tryz.func84.trans (congrArg some (by kernel_rfl))
  f15 := Tryz.func85.trans (congrArg some (by kernel_rfl))
  f16 := Tryz.func86.trans (congrArg some (by kernel_rfl))
  f29 := Tryz.func122.trans (congrArg some (by kernel_rfl))
  f30 := Tryz.func123.trans (congrArg some (by kernel_rfl))
  f42 := Tryz.func141.trans (congrArg some (by kernel_rfl))
  f49 := Tryz.func155.trans (congrArg some (by kernel_rfl))
  t0 := Tryz.underlying0
  a0 := Tryz.isAgg0
  z0 := Tryz.sizeOf0
  v0 := Tryz.zeroValue0
  i0 := by kernel_rfl
  t3 := Tryz.underlying3
  a3 := Tryz.isAgg3
  z3 := Tryz.sizeOf3
  v3 := Tryz.zeroValue3
  i3 := by kernel_rfl
  t4 := Tryz.underlying4
  a4 := Tryz.isAgg4
  z4 := Tryz.sizeOf4
  v4 := Tryz.zeroValue4
  i4 := by kernel_rfl
  t5 := Tryz.underlying5
  a5 := Tryz.isAgg5
  z5 := Tryz.sizeOf5
  v5 := Tryz.zeroValue5
  i5 := by kernel_rfl
  t12 := Tryz.underlying12
  a12 := Tryz.isAgg12
  z12 := Tryz.sizeOf12
  v12 := Tryz.zeroValue12
  i12 := by kernel_rfl
  t17 := Tryz.underlying17
  a17 := Tryz.isAgg17
  z17 := Tryz.sizeOf17
  v17 := Tryz.zeroValue17
  i17 := by kernel_rfl
  t20 := Tryz.underlying20
  a20 := Tryz.isAgg20
  z20 := Tryz.sizeOf20
  v20 := Tryz.zeroValue20
  i20 := by kernel_rfl
  t26 := Tryz.underlying118
  a26 := Tryz.isAgg118
  z26 := Tryz.sizeOf118
  v26 := Tryz.zeroValue118
  i26 := by kernel_rfl
  t33 := Tryz.underlying150
  a33 := Tryz.isAgg150
  z33 := Tryz.sizeOf150
  v33 := Tryz.zeroValue150
  i33 := by kernel_rfl
  t34 := Tryz.underlying151
  a34 := Tryz.isAgg151
  z34 := Tryz.sizeOf151
  v34 := Tryz.zeroValue151
  i34 := by kernel_rfl
  t36 := Tryz.underlying153
  a36 := Tryz.isAgg153
  z36 := Tryz.sizeOf153
  v36 := Tryz.zeroValue153
  i36 := by kernel_rfl
  t38 := Tryz.underlying132
  a38 := Tryz.isAgg132
  z38 := Tryz.sizeOf132
  v38 := Tryz.zeroValue132
  i38 := by kernel_rfl
  t42 := Tryz.underlying158
  a42 := Tryz.isAgg158
  z42 := Tryz.sizeOf158
  v42 := Tryz.zeroValue158
  i42 := by kernel_rfl
  t47 := Tryz.underlying126
  a47 := Tryz.isAgg126
  z47 := Tryz.sizeOf126
  v47 := Tryz.zeroValue126
  i47 := by kernel_rfl
  t56 := Tryz.underlying174
  a56 := Tryz.isAgg174
  z56 := Tryz.sizeOf174
  v56 := Tryz.zeroValue174
  i56 := by kernel_rfl
  t82 := Tryz.underlying245
  a82 := Tryz.isAgg245
  z82 := Tryz.sizeOf245
  v82 := Tryz.zeroValue245
  i82 := by kernel_rfl
  t83 := Tryz.underlying201
  a83 := Tryz.isAgg201
  z83 := Tryz.sizeOf201
  v83 := Tryz.zeroValue201
  i83 := by kernel_rfl
  t84 := Tryz.underlying246
  a84 := Tryz.isAgg246
  z84 := Tryz.sizeOf246
  v84 := Tryz.zeroValue246
  i84 := by kernel_rfl
  t85 := Tryz.underlying210
  a85 := Tryz.isAgg210
  z85 := Tryz.sizeOf210
  v85 := Tryz.zeroValue210
  i85 := by kernel_rfl
  t86 := Tryz.underlying247
  a86 := Tryz.isAgg247
  z86 := Tryz.sizeOf247
  v86 := Tryz.zeroValue247
  i86 := by kernel_rfl
  t87 := Tryz.underlying248
  a87 := Tryz.isAgg248
  z87 := Tryz.sizeOf248
  v87 := Tryz.zeroValue248
  i87 := by kernel_rfl
  t89 := Tryz.underlying250
  a89 := Tryz.isAgg250
  z89 := Tryz.sizeOf250
  v89 := Tryz.zeroValue250
  i89 := by kernel_rfl }
end Go.Proofs
