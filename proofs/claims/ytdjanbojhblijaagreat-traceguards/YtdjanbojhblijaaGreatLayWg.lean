/-
 Where the functions and types of the library's slices calls stand in this program: the numbers, and that their bodies are the library's (plain text, for this seat alone).
-/
import Derived.Shelf.Sort.Plain
import Derived.Shelf.Slices.In.SortNone
import Derived.Shelf.SlGeneric
import Derived.Test.YtdjanbojhblijaaGreatChecked
namespace Go.Proofs.YtdjanbojhblijaaGreat
open Go.RowKit Go.Shelf
set_option maxRecDepth 100000
namespace LW
def layO_ren : Go.Shelf.Ren := ⟨fun | 189 => 59 | 125 => 45 | 257 => 73 | 128 => 68 | 129 => 69 | 294 => 89 | 295 => 90 | 296 => 91 | 297 => 92 | 298 => 93 | 299 => 94 | 216 => 95 | 300 => 96 | 301 => 97 | 328 => 102 | 329 => 75 | 330 => 76 | 331 => 103 | 332 => 104 | 215 => 46 | 343 => 106 | n => n, fun | 28 => 23 | 3 => 3 | 46 => 94 | 0 => 0 | 51 => 119 | 53 => 121 | 4 => 4 | 183 => 113 | 182 => 112 | 131 => 78 | 5 => 5 | 9 => 9 | 218 => 128 | 222 => 132 | 228 => 148 | 229 => 122 | n => n, fun | n => n⟩
theorem layO : Go.Proofs.Lays.n189 Tryz.prog layO_ren := {
 mixed := by kernel_rfl
 f125 := Tryz.func45.trans (congrArg some (by kernel_rfl))
 f128 := Tryz.func68.trans (congrArg some (by kernel_rfl))
 f129 := Tryz.func69.trans (congrArg some (by kernel_rfl))
 f189 := Tryz.func59.trans (congrArg some (by kernel_rfl))
 f215 := Tryz.func46.trans (congrArg some (by kernel_rfl))
 f216 := Tryz.func95.trans (congrArg some (by kernel_rfl))
 f257 := Tryz.func73.trans (congrArg some (by kernel_rfl))
 f294 := Tryz.func89.trans (congrArg some (by kernel_rfl))
 f295 := Tryz.func90.trans (congrArg some (by kernel_rfl))
 f296 := Tryz.func91.trans (congrArg some (by kernel_rfl))
 f297 := Tryz.func92.trans (congrArg some (by kernel_rfl))
 f298 := Tryz.func93.trans (congrArg some (by kernel_rfl))
 f299 := Tryz.func94.trans (congrArg some (by kernel_rfl))
 f300 := Tryz.func96.trans (congrArg some (by kernel_rfl))
 f301 := Tryz.func97.trans (congrArg some (by kernel_rfl))
 f328 := Tryz.func102.trans (congrArg some (by kernel_rfl))
 f329 := Tryz.func75.trans (congrArg some (by kernel_rfl))
 f330 := Tryz.func76.trans (congrArg some (by kernel_rfl))
 f331 := Tryz.func103.trans (congrArg some (by kernel_rfl))
 f332 := Tryz.func104.trans (congrArg some (by kernel_rfl))
 f343 := Tryz.func106.trans (congrArg some (by kernel_rfl))
 t0 := Tryz.underlying0
 a0 := Tryz.isAgg0
 z0 := Tryz.sizeOf0
 v0 := Tryz.zeroValue0
 t3 := Tryz.underlying3
 a3 := Tryz.isAgg3
 z3 := Tryz.sizeOf3
 v3 := Tryz.zeroValue3
 t4 := Tryz.underlying4
 a4 := Tryz.isAgg4
 z4 := Tryz.sizeOf4
 v4 := Tryz.zeroValue4
 t5 := Tryz.underlying5
 a5 := Tryz.isAgg5
 z5 := Tryz.sizeOf5
 v5 := Tryz.zeroValue5
 t9 := Tryz.underlying9
 a9 := Tryz.isAgg9
 z9 := Tryz.sizeOf9
 v9 := Tryz.zeroValue9
 t28 := Tryz.underlying23
 a28 := Tryz.isAgg23
 z28 := Tryz.sizeOf23
 v28 := Tryz.zeroValue23
 t46 := Tryz.underlying94
 a46 := Tryz.isAgg94
 z46 := Tryz.sizeOf94
 v46 := Tryz.zeroValue94
 t51 := Tryz.underlying119
 a51 := Tryz.isAgg119
 z51 := Tryz.sizeOf119
 v51 := Tryz.zeroValue119
 t53 := Tryz.underlying121
 a53 := Tryz.isAgg121
 z53 := Tryz.sizeOf121
 v53 := Tryz.zeroValue121
 t131 := Tryz.underlying78
 a131 := Tryz.isAgg78
 z131 := Tryz.sizeOf78
 v131 := Tryz.zeroValue78
 t182 := Tryz.underlying112
 a182 := Tryz.isAgg112
 z182 := Tryz.sizeOf112
 v182 := Tryz.zeroValue112
 t183 := Tryz.underlying113
 a183 := Tryz.isAgg113
 z183 := Tryz.sizeOf113
 v183 := Tryz.zeroValue113
 t218 := Tryz.underlying128
 a218 := Tryz.isAgg128
 z218 := Tryz.sizeOf128
 v218 := Tryz.zeroValue128
 t222 := Tryz.underlying132
 a222 := Tryz.isAgg132
 z222 := Tryz.sizeOf132
 v222 := Tryz.zeroValue132
 t228 := Tryz.underlying148
 a228 := Tryz.isAgg148
 z228 := Tryz.sizeOf148
 v228 := Tryz.zeroValue148
 t229 := Tryz.underlying122
 a229 := Tryz.isAgg122
 z229 := Tryz.sizeOf122
 v229 := Tryz.zeroValue122 }
end LW
end Go.Proofs.YtdjanbojhblijaaGreat
