/-
 A small system, and its run.
-/
import Derived.Test.YtfbnakmmmphedaaArgs13o
import Derived.Test.YtfbnakmmmphedaaSyAo
set_option linter.unusedVariables false
set_option linter.unusedSimpArgs false
namespace Go.Proofs.Ytfbnakmmmphedaa
open Go.RowKit
namespace LW
open Mc
end LW
end Go.Proofs.Ytfbnakmmmphedaa
