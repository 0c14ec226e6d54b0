/-
 The law on Valid and Runners.
-/
import Derived.Test.YthcndgnpmefefaaTvBo
set_option linter.unusedVariables false
set_option linter.unusedSimpArgs false
namespace Go.Proofs.Ythcndgnpmefefaa
open Go.RowKit
namespace LW
open Mc
end LW
end Go.Proofs.Ythcndgnpmefefaa
