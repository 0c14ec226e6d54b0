/-
 A small system, and its run.
-/
import Derived.Test.YthgmmggpclmagaaArgs13
import Derived.Test.YthgmmggpclmagaaSyA
namespace Go.Proofs.Ythgmmggpclmagaa
open Go.RowKit
set_option linter.unusedVariables false
set_option linter.unusedSimpArgs false
namespace LW
open Mc
end LW
end Go.Proofs.Ythgmmggpclmagaa
