/-
  The walk of LaneParams, for its row.
-/
import Derived.Test.YthbakhgfnfdahaaParLaw
namespace Go.Proofs.Ythbakhgfnfdahaa
open Go.RowKit
set_option linter.unusedVariables false
namespace LW
theorem lanePF (k d y : Int) (w : World) (h0 : (Lit.int .i64 k).wf = true) (h1 : (Lit.int .i64 d).wf = true) (h2 : (Lit.int .i64 y).wf = true) : Calls Try.prog 3 #[.int .i64 k, .int .i64 d, .int .i64 y] w fun e w' => e = .returned (.bool true) ∧ Below w.heap.size w w' := laneP k d y w
end LW
end Go.Proofs.Ythbakhgfnfdahaa
