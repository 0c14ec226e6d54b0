/-
 From where edges lead to an event, as the document looks for them: the first loop.
-/
import Derived.Test.YthcndgnpmefefaaDnAw
import Derived.Test.YthcndgnpmefefaaLkAw
namespace Go.Proofs.Ythcndgnpmefefaa
open Go.RowKit
set_option linter.unusedVariables false
set_option linter.unusedSimpArgs false
namespace LW
open Mc
end LW
end Go.Proofs.Ythcndgnpmefefaa
