/-
 The program's Valid and Runners.
-/
import Derived.Test.YtlahcdbgggdldaaTv7e
namespace Go.Proofs.Ytlahcdbgggdldaa
open Go.RowKit
set_option linter.unusedVariables false
set_option linter.unusedSimpArgs false
namespace LW
open Mc
end LW
end Go.Proofs.Ytlahcdbgggdldaa
