/-
  Jn in one.
-/
import Derived.Test.YthcndgnpmefefaaEdAo
import Derived.Test.YthcndgnpmefefaaLkAo
import Derived.Test.YthcndgnpmefefaaCk7o
set_option linter.unusedVariables false
set_option linter.unusedSimpArgs false
namespace Go.Proofs.Ythcndgnpmefefaa
open Go.RowKit
namespace LW
open Mc
theorem own_keepT {W W1 : World} {B n s p : Nat} {t t' : TypeId} {v : Value} {xs : List Value} {cs : Array Value} {fr : Nat × Nat} (hp : W.heap[p]? = some (.cells cs t' fr)) (ho : W.ownsRow B t s v n xs) (hne : t ≠ t') (hg : W.grownBy W1 v.ownBlock) : W1.heap[p]? = some (.cells cs t' fr):=by
 rw [hg.block p (blk_lt hp) (fun e => own_neB ho hp hne e.symm)]
 exact hp
end LW
end Go.Proofs.Ythcndgnpmefefaa
