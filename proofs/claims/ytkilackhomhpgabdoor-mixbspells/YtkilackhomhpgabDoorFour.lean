/-
  What the call fourPlaces gives.
-/
import Derived.Test.YtkilackhomhpgabDoorTabs
namespace Go.Proofs.YtkilackhomhpgabDoor
open Go.RowKit
set_option linter.unusedVariables false
set_option linter.unusedSimpArgs false
namespace MX
/-- Is it a place? -/
def pB (a : Int) : Bool := decide (0 ≤ a) && decide (a < 16)
/-- Are they four places, no two the same? -/
def fpB (a b c d : Int) : Bool := (a != b) && (a != c) && (a != d) && (b != c) && (b != d) && (c != d) && pB a && pB b && pB c && pB d
end MX
end Go.Proofs.YtkilackhomhpgabDoor
