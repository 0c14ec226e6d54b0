/-
 The law on Valid and Runners.
-/
import Derived.Test.YtdjanbojhblijaaGreatTvBg
namespace Go.Proofs.YtdjanbojhblijaaGreat
open Go.RowKit
set_option linter.unusedVariables false
set_option linter.unusedSimpArgs false
namespace LW
open Mc
end LW
end Go.Proofs.YtdjanbojhblijaaGreat
