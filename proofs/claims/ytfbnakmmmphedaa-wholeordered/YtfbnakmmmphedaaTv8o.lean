/-
 The program's Valid and Runners.
-/
import Derived.Test.YtfbnakmmmphedaaTv7o
set_option linter.unusedVariables false
set_option linter.unusedSimpArgs false
namespace Go.Proofs.Ytfbnakmmmphedaa
open Go.RowKit
namespace LW
open Mc
end LW
end Go.Proofs.Ytfbnakmmmphedaa
