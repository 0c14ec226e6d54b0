/-
  What the calls same (the laws') and alike (the document's) give: whether the bytes are the same.
-/
import Derived.Test.YtplpplbmajiclabGreatBase
namespace Go.Proofs.YtplpplbmajiclabGreat
open Go.RowKit
set_option linter.unusedVariables false
namespace LW
open Words
end LW
end Go.Proofs.YtplpplbmajiclabGreat
