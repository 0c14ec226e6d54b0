/-
  What the call Same (the document's) gives, over what Normal and Alike give.
-/
import Derived.Test.YteakoajkmcbilabDoorNormal
import Derived.Test.YteakoajkmcbilabDoorAlikeP
namespace Go.Proofs.YteakoajkmcbilabDoor
open Go.RowKit
set_option linter.unusedVariables false
namespace LW
open Words
end LW
end Go.Proofs.YteakoajkmcbilabDoor
