/-
  What the call Normal gives: the same parameters with bytes of their own that do not end with a nought, or Check's error.
-/
import Derived.Test.YtplpplbmajiclabGreatCopied
import Derived.Test.YtplpplbmajiclabGreatTrims
namespace Go.Proofs.YtplpplbmajiclabGreat
open Go.RowKit
set_option linter.unusedVariables false
namespace LW
open Words
end LW
end Go.Proofs.YtplpplbmajiclabGreat
