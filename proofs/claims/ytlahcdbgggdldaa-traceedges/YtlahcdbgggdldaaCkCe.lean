/-
  Ck8, Ck9 in one.
-/
import Derived.Test.YtlahcdbgggdldaaCk7e
import Derived.Test.YtlahcdbgggdldaaCpBe
import Derived.Test.YtlahcdbgggdldaaTv7e
namespace Go.Proofs.Ytlahcdbgggdldaa
open Go.RowKit
set_option linter.unusedVariables false
set_option linter.unusedSimpArgs false
namespace LW
open Mc
/-- What Clocks answers: the error. -/
def clE (s : Syst) (l : List Ev) : Int := if (Tr.vR s l).2.2 = 0 then (if 1048576 < l.length * Tr.rnC l then 2 else 0) else (Tr.vR s l).2.2
end LW
end Go.Proofs.Ytlahcdbgggdldaa
namespace Go.Proofs.Ytlahcdbgggdldaa
open Go.RowKit
set_option linter.unusedVariables false
set_option linter.unusedSimpArgs false
namespace LW
open Mc
end LW
end Go.Proofs.Ytlahcdbgggdldaa
