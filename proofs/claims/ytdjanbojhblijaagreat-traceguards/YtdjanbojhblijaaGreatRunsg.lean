/-
 What the events of a run tell: of each channel what went in and came out, of locks and groups what they are.
-/
import Derived.Test.YtdjanbojhblijaaGreatGoodg
namespace Go.Proofs.YtdjanbojhblijaaGreat
open Go
set_option linter.unusedVariables false
set_option linter.unusedSimpArgs false
namespace Mc
theorem getD_set_ne {α : Type} (l : List α) {i j : Nat} (v d : α) (h : i ≠ j) : (l.set i v).getD j d = l.getD j d := by
 rw [getD_set, if_neg (fun hh => h hh.1)]
end Mc
end Go.Proofs.YtdjanbojhblijaaGreat
