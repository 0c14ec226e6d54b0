/-
 Where the functions and types of the library's slices calls stand in this program: the numbers, and that their bodies are the library's (plain text, for this seat alone).
-/
import Derived.Shelf.Sort.Plain
import Derived.Shelf.Slices.Reverse
import Derived.Shelf.Slices.SearchI
import Derived.Shelf.Slices.Empties
import Derived.Shelf.Slices.In.SortNone
import Derived.Shelf.Spec.SlicesGrow
import Derived.Shelf.SlGeneric
import Derived.Test.YthcndgnpmefefaaChecked
namespace Go.Proofs.Ythcndgnpmefefaa
open Go.RowKit Go.Shelf
set_option maxRecDepth 100000
namespace LW
def layO_ren : Go.Shelf.Ren := ⟨fun | 189 => 69 | 125 => 74 | 257 => 82 | 128 => 92 | 129 => 93 | 294 => 96 | 295 => 97 | 296 => 98 | 297 => 99 | 298 => 100 | 299 => 101 | 216 => 79 | 300 => 102 | 301 => 103 | 328 => 109 | 329 => 105 | 330 => 106 | 331 => 110 | 332 => 111 | 215 => 75 | 343 => 113 | n => n, fun | 28 => 23 | 3 => 3 | 46 => 132 | 0 => 0 | 51 => 148 | 53 => 150 | 4 => 4 | 183 => 142 | 182 => 141 | 131 => 92 | 5 => 5 | 9 => 9 | 218 => 161 | 222 => 165 | 228 => 169 | 229 => 87 | n => n, fun | n => n⟩
theorem layO : Go.Proofs.Lays.n189 Try.prog layO_ren := {
 mixed := by kernel_rfl
 f125 := Try.func74.trans (congrArg some (by kernel_rfl))
 f128 := Try.func92.trans (congrArg some (by kernel_rfl))
 f129 := Try.func93.trans (congrArg some (by kernel_rfl))
 f189 := Try.func69.trans (congrArg some (by kernel_rfl))
 f215 := Try.func75.trans (congrArg some (by kernel_rfl))
 f216 := Try.func79.trans (congrArg some (by kernel_rfl))
 f257 := Try.func82.trans (congrArg some (by kernel_rfl))
 f294 := Try.func96.trans (congrArg some (by kernel_rfl))
 f295 := Try.func97.trans (congrArg some (by kernel_rfl))
 f296 := Try.func98.trans (congrArg some (by kernel_rfl))
 f297 := Try.func99.trans (congrArg some (by kernel_rfl))
 f298 := Try.func100.trans (congrArg some (by kernel_rfl))
 f299 := Try.func101.trans (congrArg some (by kernel_rfl))
 f300 := Try.func102.trans (congrArg some (by kernel_rfl))
 f301 := Try.func103.trans (congrArg some (by kernel_rfl))
 f328 := Try.func109.trans (congrArg some (by kernel_rfl))
 f329 := Try.func105.trans (congrArg some (by kernel_rfl))
 f330 := Try.func106.trans (congrArg some (by kernel_rfl))
 f331 := Try.func110.trans (congrArg some (by kernel_rfl))
 f332 := Try.func111.trans (congrArg some (by kernel_rfl))
 f343 := Try.func113.trans (congrArg some (by kernel_rfl))
 t0 := Try.underlying0
 a0 := Try.isAgg0
 z0 := Try.sizeOf0
 v0 := Try.zeroValue0
 t3 := Try.underlying3
 a3 := Try.isAgg3
 z3 := Try.sizeOf3
 v3 := Try.zeroValue3
 t4 := Try.underlying4
 a4 := Try.isAgg4
 z4 := Try.sizeOf4
 v4 := Try.zeroValue4
 t5 := Try.underlying5
 a5 := Try.isAgg5
 z5 := Try.sizeOf5
 v5 := Try.zeroValue5
 t9 := Try.underlying9
 a9 := Try.isAgg9
 z9 := Try.sizeOf9
 v9 := Try.zeroValue9
 t28 := Try.underlying23
 a28 := Try.isAgg23
 z28 := Try.sizeOf23
 v28 := Try.zeroValue23
 t46 := Try.underlying132
 a46 := Try.isAgg132
 z46 := Try.sizeOf132
 v46 := Try.zeroValue132
 t51 := Try.underlying148
 a51 := Try.isAgg148
 z51 := Try.sizeOf148
 v51 := Try.zeroValue148
 t53 := Try.underlying150
 a53 := Try.isAgg150
 z53 := Try.sizeOf150
 v53 := Try.zeroValue150
 t131 := Try.underlying92
 a131 := Try.isAgg92
 z131 := Try.sizeOf92
 v131 := Try.zeroValue92
 t182 := Try.underlying141
 a182 := Try.isAgg141
 z182 := Try.sizeOf141
 v182 := Try.zeroValue141
 t183 := Try.underlying142
 a183 := Try.isAgg142
 z183 := Try.sizeOf142
 v183 := Try.zeroValue142
 t218 := Try.underlying161
 a218 := Try.isAgg161
 z218 := Try.sizeOf161
 v218 := Try.zeroValue161
 t222 := Try.underlying165
 a222 := Try.isAgg165
 z222 := Try.sizeOf165
 v222 := Try.zeroValue165
 t228 := Try.underlying169
 a228 := Try.isAgg169
 z228 := Try.sizeOf169
 v228 := Try.zeroValue169
 t229 := Try.underlying87
 a229 := Try.isAgg87
 z229 := Try.sizeOf87
 v229 := Try.zeroValue87 }
def layV_ren : Go.Shelf.Ren := ⟨fun | 112 => 66 | n => n, fun | 28 => 23 | 3 => 3 | 4 => 4 | 0 => 0 | n => n, fun | n => n⟩
theorem layV : Go.Proofs.Lays.n112 Try.prog layV_ren := {
 mixed := by kernel_rfl
 f112 := Try.func66.trans (congrArg some (by kernel_rfl))
 t0 := Try.underlying0
 a0 := Try.isAgg0
 z0 := Try.sizeOf0
 v0 := Try.zeroValue0
 t3 := Try.underlying3
 a3 := Try.isAgg3
 z3 := Try.sizeOf3
 v3 := Try.zeroValue3
 t4 := Try.underlying4
 a4 := Try.isAgg4
 z4 := Try.sizeOf4
 v4 := Try.zeroValue4
 t28 := Try.underlying23
 a28 := Try.isAgg23
 z28 := Try.sizeOf23
 v28 := Try.zeroValue23 }
def layB_ren : Go.Shelf.Ren := ⟨fun | 25 => 67 | 31 => 79 | 32 => 80 | 37 => 75 | n => n, fun | 22 => 23 | 3 => 3 | 4 => 4 | 40 => 132 | 0 => 0 | n => n, fun | n => n⟩
theorem layB : Go.Proofs.Lays2.n25 Try.prog layB_ren := {
 mixed := by kernel_rfl
 f25 := Try.func67.trans (congrArg some (by kernel_rfl))
 f31 := Try.func79.trans (congrArg some (by kernel_rfl))
 f32 := Try.func80.trans (congrArg some (by kernel_rfl))
 f37 := Try.func75.trans (congrArg some (by kernel_rfl))
 t0 := Try.underlying0
 a0 := Try.isAgg0
 z0 := Try.sizeOf0
 v0 := Try.zeroValue0
 t3 := Try.underlying3
 a3 := Try.isAgg3
 z3 := Try.sizeOf3
 v3 := Try.zeroValue3
 t4 := Try.underlying4
 a4 := Try.isAgg4
 z4 := Try.sizeOf4
 v4 := Try.zeroValue4
 t22 := Try.underlying23
 a22 := Try.isAgg23
 z22 := Try.sizeOf23
 v22 := Try.zeroValue23
 t40 := Try.underlying132
 a40 := Try.isAgg132
 z40 := Try.sizeOf132
 v40 := Try.zeroValue132 }
def layG_ren : Go.Shelf.Ren := ⟨fun | 4 => 81 | n => n, fun | 22 => 23 | 25 => 3 | 3 => 3 | 4 => 4 | 9 => 9 | 20 => 20 | 0 => 0 | n => n, fun | n => n⟩
theorem layG : Go.Proofs.Lays8.n4 Try.prog layG_ren := {
 mixed := by kernel_rfl
 f4 := ⟨Try.f81.name, by decide, Try.func81.trans (congrArg some (by kernel_rfl))⟩
 t0 := Try.underlying0
 a0 := Try.isAgg0
 z0 := Try.sizeOf0
 v0 := Try.zeroValue0
 t3 := Try.underlying3
 a3 := Try.isAgg3
 z3 := Try.sizeOf3
 v3 := Try.zeroValue3
 t4 := Try.underlying4
 a4 := Try.isAgg4
 z4 := Try.sizeOf4
 v4 := Try.zeroValue4
 t9 := Try.underlying9
 a9 := Try.isAgg9
 z9 := Try.sizeOf9
 v9 := Try.zeroValue9
 t20 := Try.underlying20
 a20 := Try.isAgg20
 z20 := Try.sizeOf20
 v20 := Try.zeroValue20
 t22 := Try.underlying23
 a22 := Try.isAgg23
 z22 := Try.sizeOf23
 v22 := Try.zeroValue23 }
end LW
end Go.Proofs.Ythcndgnpmefefaa
