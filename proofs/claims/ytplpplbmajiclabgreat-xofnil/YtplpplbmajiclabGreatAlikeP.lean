/-
  What the call Alike (the document's) gives: whether two parameters are the same, byte for byte.
-/
import Derived.Test.YtplpplbmajiclabGreatAlikeN
namespace Go.Proofs.YtplpplbmajiclabGreat
open Go.RowKit
set_option linter.unusedVariables false
namespace LW
open Words
end LW
end Go.Proofs.YtplpplbmajiclabGreat
