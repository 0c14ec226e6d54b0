/-
  What the call Same (the document's) gives, over what Normal and Alike give.
-/
import Derived.Test.YtomdplcmbcjkfaaNormal
import Derived.Test.YtomdplcmbcjkfaaAlikeP
namespace Go.Proofs.Ytomdplcmbcjkfaa
open Go.RowKit
set_option linter.unusedVariables false
namespace LW
open Words
end LW
end Go.Proofs.Ytomdplcmbcjkfaa
