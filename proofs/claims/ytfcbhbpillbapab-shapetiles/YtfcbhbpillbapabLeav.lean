/-
  What Leaves gives, the program's and the document's.
-/
import Derived.Test.YtfcbhbpillbapabSh5
namespace Go.Proofs.Ytfcbhbpillbapab
open Go.RowKit
set_option linter.unusedVariables false
set_option linter.unusedSimpArgs false
namespace LW
open Words
/-- How many leaves are told. -/
def lvN (T : Tr) (n : Nat) : Nat := if lvE T n = 0 then lv T n else 0
end LW
end Go.Proofs.Ytfcbhbpillbapab
