/-
 The program's Valid and Runners.
-/
import Derived.Test.YthcndgnpmefefaaTv7w
namespace Go.Proofs.Ythcndgnpmefefaa
open Go.RowKit
set_option linter.unusedVariables false
set_option linter.unusedSimpArgs false
namespace LW
open Mc
end LW
end Go.Proofs.Ythcndgnpmefefaa
