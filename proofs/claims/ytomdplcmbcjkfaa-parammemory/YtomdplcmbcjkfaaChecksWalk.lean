/-
  What the law ParamChecks does: Check, Normal and Same of the program answer as the document's.
-/
import Derived.Test.YtomdplcmbcjkfaaUnif
import Derived.Test.YtomdplcmbcjkfaaAlike
namespace Go.Proofs.Ytomdplcmbcjkfaa
open Go.RowKit
set_option linter.unusedVariables false
set_option linter.unusedSimpArgs false
namespace LW
open Words
attribute [local go_sem ↓] Go.wp_at_zero Go.wp_at_succ
theorem exec_load_row' {P : Program} {o : Oper} {a : Act} {w : World} (ty : TypeId) (x : Operand) (ho : o.op = .load ty x) (g : Nat) (hx : a.eval x = .pointer (some ⟨g, 0, none⟩)) (t : TypeId) (cs : Array Value) (fr : Nat × Nat) (d : TypeDesc)
    (hg : w.heap[g]? = some (.cells cs t fr)) (hu : P.underlying ty = some d) (hd : (match d with | .struct _ | .array _ _ => true | _ => false) = true) (hi : (P.info? ty).map (·.size) = some cs.size) :
    (execOp a.eval o).run P w = .ok (.value (.agg cs)) w := exec_load_row ty x ho g hx t cs fr d hg hu hd hi
theorem nS_le (E : Int) (s : List Int) (h : s.length ≤ 140737488351232) : (nS E s).length ≤ 140737488351232 := by
  unfold nS
  split
  · exact Nat.le_trans (tr_le s) h
  · simp
theorem nS_byt (E : Int) (s : List Int) (h : Byt s) : Byt (nS E s) := by
  unfold nS
  split
  · exact Byt.tr h
  · exact Byt.nil
end LW
end Go.Proofs.Ytomdplcmbcjkfaa
