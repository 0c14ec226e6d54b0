/-
  What Valid of the document gives.
-/
import Derived.Test.YtlmnllgcoikkmaaSysR
namespace Go.Proofs.Ytlmnllgcoikkmaa
open Go.RowKit
set_option linter.unusedVariables false
set_option linter.unusedSimpArgs false
namespace LW
open Mc
theorem keepC {V W : World} (hb : Below V.heap.size V W) {p o : Nat} {u : Value} (h : V.cell? ⟨p, o, none⟩ = some u) : W.cell? ⟨p, o, none⟩ = some u := by
  rw [hb.cell (lt_of_cell h)]; exact h
end LW
end Go.Proofs.Ytlmnllgcoikkmaa
