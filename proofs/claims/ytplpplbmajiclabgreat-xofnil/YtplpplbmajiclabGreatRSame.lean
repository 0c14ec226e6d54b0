/-
  What the call Same (the document's) gives, over what Normal and Alike give.
-/
import Derived.Test.YtplpplbmajiclabGreatNormal
import Derived.Test.YtplpplbmajiclabGreatAlikeP
namespace Go.Proofs.YtplpplbmajiclabGreat
open Go.RowKit
set_option linter.unusedVariables false
namespace LW
open Words
end LW
end Go.Proofs.YtplpplbmajiclabGreat
