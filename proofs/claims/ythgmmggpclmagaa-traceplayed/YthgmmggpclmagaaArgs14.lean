/-
 How lists of events and places among a law's arguments are opened.
-/
import Derived.Test.YthgmmggpclmagaaArgs13
import Derived.Test.YthgmmggpclmagaaErT
namespace Go.Proofs.Ythgmmggpclmagaa
open Go.ChangeShapes Go.WideShapes Go.ChangeAt Go.RowKit Go.Deep
set_option linter.unusedVariables false
set_option linter.unusedSimpArgs false
namespace LW
open Mc
end LW
end Go.Proofs.Ythgmmggpclmagaa
