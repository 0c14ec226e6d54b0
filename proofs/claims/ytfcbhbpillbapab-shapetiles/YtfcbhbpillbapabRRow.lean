/-
  What Rows of the document gives.
-/
import Derived.Test.YtfcbhbpillbapabLeav
import Derived.Test.YtfcbhbpillbapabSh6
namespace Go.Proofs.Ytfcbhbpillbapab
open Go.RowKit
set_option linter.unusedVariables false
set_option linter.unusedSimpArgs false
namespace LW
open Words
theorem app_below {W w5 : World} {tmp : Obj} {B k : Nat} {v : Value} {xs : List Value} (hr : W.ownsRow B 29 1 v k xs) (hB : B ≤ W.heap.size) (hgrow : (W.alloc tmp).grownBy w5 v.ownBlock) : Below B W w5 := by
  refine ((Below.refl B W).alloc hB tmp).grown hgrow (by simp; omega) fun j ej => ?_
  rcases hr.2 with ⟨rfl, _⟩ | ⟨g, cap, cur, rfl, hb, _, _⟩
  · simp [Value.ownBlock] at ej
  · obtain rfl : g = j := by simpa [Value.ownBlock] using ej
    exact hb
theorem app_blk {W w5 : World} {z : Nat} {t e : TypeId} {cs : Array Value} {tmp : Obj} {base size k : Nat} {v : Value} {xs : List Value} (hz : W.heap[z]? = some (.cells cs t (0, 0))) (hte : t ≠ e) (hr : W.ownsRow base e size v k xs) (hgrow : (W.alloc tmp).grownBy w5 v.ownBlock) : w5.heap[z]? = some (.cells cs t (0, 0)) := by
  rw [hgrow.block z (by have := blk_lt hz; simp; omega) (row_ne hz hte hr)]
  exact (Below.heap_alloc _ _ _ (blk_lt hz)).trans hz
end LW
end Go.Proofs.Ytfcbhbpillbapab
