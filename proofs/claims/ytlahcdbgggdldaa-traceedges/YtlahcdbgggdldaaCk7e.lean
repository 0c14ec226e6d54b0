/-
 The clocks of a trace, as the program makes them.
-/
import Derived.Test.YtlahcdbgggdldaaCkBe
namespace Go.Proofs.Ytlahcdbgggdldaa
open Go.RowKit
set_option linter.unusedVariables false
set_option linter.unusedSimpArgs false
namespace LW
open Mc
end LW
end Go.Proofs.Ytlahcdbgggdldaa
