/-
  What Spot of the document gives.
-/
import Derived.Test.YtfcbhbpillbapabSpot
import Derived.Test.YtfcbhbpillbapabRRow
import Derived.Test.YtfcbhbpillbapabNumArgs
namespace Go.Proofs.Ytfcbhbpillbapab
open Go.RowKit
set_option linter.unusedVariables false
set_option linter.unusedSimpArgs false
namespace LW
open Words
end LW
end Go.Proofs.Ytfcbhbpillbapab
