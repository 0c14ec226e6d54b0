/-
  The programs of the pool's system, as the document tells them.
-/
import Derived.Test.YtghpfhoajcgghaaPv2
namespace Go.Proofs.Ytghpfhoajcgghaa
open Go.RowKit
set_option linter.unusedVariables false
set_option linter.unusedSimpArgs false
namespace LW
open Mc
end LW
end Go.Proofs.Ytghpfhoajcgghaa
