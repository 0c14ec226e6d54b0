/-
  The walk of LaneSplits, for its row.
-/
import Derived.Test.YthbakhgfnfdahaaSplLaw
import Derived.Test.YthbakhgfnfdahaaByteArgs
namespace Go.Proofs.Ythbakhgfnfdahaa
open Go.RowKit
set_option linter.unusedVariables false
namespace LW
theorem splitsF (k : Int) (a : Option Addr) (cap : Nat) (zs : List Int) (w : World) (h0 : (Lit.int .i64 k).wf = true) (hb : Bb w a cap zs) : Calls Try.prog 4 #[.int .i64 k, .slice a zs.length cap] w fun e w' => e = .returned (.bool true) ∧ Below w.heap.size w w' := splits k a cap zs w hb.row hb.nil hb.most
end LW
end Go.Proofs.Ythbakhgfnfdahaa
