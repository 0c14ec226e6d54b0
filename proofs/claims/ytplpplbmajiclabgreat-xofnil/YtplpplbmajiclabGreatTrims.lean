/-
  What the calls trimmed (the document) and copied (the law) give.
-/
import Derived.Test.YtplpplbmajiclabGreatEnds
namespace Go.Proofs.YtplpplbmajiclabGreat
open Go.RowKit
set_option linter.unusedVariables false
namespace LW
open Words
theorem take_take_tr (zs : List Int) (k : Nat) (h : k < (tr zs).length) : (tr zs).getD k 0 = zs.getD k 0 := by
  have := tn_le zs zs.length
  rw [tr_length] at h
  simp [LW.tr, List.getD_eq_getElem?_getD, h]
end LW
end Go.Proofs.YtplpplbmajiclabGreat
