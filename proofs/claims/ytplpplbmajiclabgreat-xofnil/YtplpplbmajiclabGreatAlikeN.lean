/-
  What the call Alike (the document's) gives at parameters whose numbers are not the same: false.
-/
import Derived.Test.YtplpplbmajiclabGreatCheck
import Derived.Test.YtplpplbmajiclabGreatSame
namespace Go.Proofs.YtplpplbmajiclabGreat
open Go.RowKit
set_option linter.unusedVariables false
namespace LW
open Words
theorem wpList_val {P : Program} {ops : Array Oper} {Q : Exit → Act → World → Prop} {a : Act} {w : World} {rest : List Oper} {o : Oper} (v : Value)
    (hw : Region.wanted o (yielded ops a.tmps) = true) (hr : (execOp a.eval o).run P w = .ok (.value v) w) (h : wpList P ops Q rest (a.put o.dst v) w) : wpList P ops Q (o :: rest) a w := by
  simp only [wpList, hw, if_true]
  left
  unfold Oper.wp
  rw [hr]
  exact h
theorem val_load {a : Act} {w : World} {o : Oper} {x : Operand} {t : TypeId} {b i : Nat} {v : Value} (ho : o.op = .load t x) (hx : a.eval x = .pointer (some ⟨b, i, none⟩)) (hl : (Instr.loadAt t (.pointer (some ⟨b, i, none⟩))).run Tryz.prog w = .ok v w) :
    (execOp a.eval o).run Tryz.prog w = .ok (.value v) w := by
  simp only [execOp, ho, hx, Sem.run_bind, hl, Result.andThen_ok, Sem.run_pure]
theorem val_eql {a : Act} {w : World} {o : Oper} {x y : Operand} {t t' : TypeId} {k : IntKind} {m n : Int} {b : Bool} (ho : o.op = .binOp .eql t x y t') (hx : a.eval x = .int k m) (hy : a.eval y = .int k n) (hb : (execOp a.eval o).run Tryz.prog w = .ok (.value (.bool (m == n))) w) (hmn : (m == n) = b) :
    (execOp a.eval o).run Tryz.prog w = .ok (.value (.bool b)) w := by rw [hb, hmn]
end LW
end Go.Proofs.YtplpplbmajiclabGreat
