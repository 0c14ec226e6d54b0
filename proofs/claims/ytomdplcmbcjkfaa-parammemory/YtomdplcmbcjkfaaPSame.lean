/-
  What the call Same (the program) gives.
-/
import Derived.Test.YtomdplcmbcjkfaaPars
namespace Go.Proofs.Ytomdplcmbcjkfaa
open Go.RowKit
set_option linter.unusedVariables false
set_option linter.unusedSimpArgs false
namespace LW
open Words
attribute [local go_sem ↓] Go.wp_at_zero Go.wp_at_succ
end LW
end Go.Proofs.Ytomdplcmbcjkfaa
