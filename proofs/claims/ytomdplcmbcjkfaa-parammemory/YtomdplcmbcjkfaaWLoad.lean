/-
  What the calls Load32 and Load64 of package word give.
-/
import Derived.Test.YtomdplcmbcjkfaaREnc
namespace Go.Proofs.Ytomdplcmbcjkfaa
open Go.RowKit
set_option linter.unusedVariables false
namespace LW
open Words
end LW
end Go.Proofs.Ytomdplcmbcjkfaa
