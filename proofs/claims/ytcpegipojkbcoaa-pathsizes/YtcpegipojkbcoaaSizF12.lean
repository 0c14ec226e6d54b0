/-
  The walk of PathSizes, for its row.
-/
import Derived.Test.YtcpegipojkbcoaaNumArgs
import Derived.Test.YtcpegipojkbcoaaSizesW
import Derived.Test.YtcpegipojkbcoaaPSiz
namespace Go.Proofs.Ytcpegipojkbcoaa
open Go.RowKit
set_option linter.unusedVariables false
namespace LW
theorem sizesF (T : Tr) (s t : List Int) (n0 l0 : Int) (w : World) (hT : 0 ≤ T.lf ∧ T.lf < 4294967296) (hx1 : T.sl = s.length) (hx2 : Lies w T.sa T.sc s) (hx3 : T.pl = t.length) (hx4 : Lies w T.pa T.pc t) (h1 : (Lit.int .u64 n0).wf = true) (h2 : (Lit.int .u64 l0).wf = true) : Calls Try.prog 3 #[.agg (trC T), .int .u64 n0, .int .u64 l0] w fun e w' => e = .returned (.bool true) ∧ Below w.heap.size w w' := by
  obtain ⟨n, rfl, hn⟩ := u64_nat h1
  obtain ⟨l, rfl, hl⟩ := u64_nat h2
  exact sizesW psize T s t n l w hT hn hl
end LW
end Go.Proofs.Ytcpegipojkbcoaa
