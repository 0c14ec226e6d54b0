/-
  What the call Same (the document's) gives, over what Normal and Alike give.
-/
import Derived.Test.YteakoajkmcbilabNormal
import Derived.Test.YteakoajkmcbilabAlikeP
namespace Go.Proofs.Yteakoajkmcbilab
open Go.RowKit
set_option linter.unusedVariables false
namespace LW
open Words
end LW
end Go.Proofs.Yteakoajkmcbilab
