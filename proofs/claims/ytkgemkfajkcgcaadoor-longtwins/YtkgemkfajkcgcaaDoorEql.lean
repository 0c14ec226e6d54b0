/-
  Two arrays of numbers are the same just if their lists are.
-/
import Derived.Test.YtkgemkfajkcgcaaDoorArr
import Derived.DeepKeys
import Derived.Laws.StructEq
namespace Go.Proofs.YtkgemkfajkcgcaaDoor
open Go.RowKit
set_option linter.unusedVariables false
set_option linter.unusedSimpArgs false
namespace LW
/-- An operation that yields a value and leaves the world as it is, guarded or not. -/
theorem wpList_val {P : Program} {ops : Array Oper} {Q : Exit → Act → World → Prop} {a : Act} {w : World} {rest : List Oper} {o : Oper} (v : Value)
    (hw : Region.wanted o (yielded ops a.tmps) = true) (hr : (execOp a.eval o).run P w = .ok (.value v) w) (h : wpList P ops Q rest (a.put o.dst v) w) : wpList P ops Q (o :: rest) a w := by
  simp only [wpList, hw, if_true]
  left
  unfold Oper.wp
  rw [hr]
  exact h
theorem exec_load_row' {P : Program} {o : Oper} {a : Act} {w : World} (ty : TypeId) (x : Operand) (ho : o.op = .load ty x) (g : Nat) (hx : a.eval x = .pointer (some ⟨g, 0, none⟩)) (t : TypeId) (cs : Array Value) (fr : Nat × Nat) (d : TypeDesc)
    (hg : w.heap[g]? = some (.cells cs t fr)) (hu : P.underlying ty = some d) (hd : (match d with | .struct _ | .array _ _ => true | _ => false) = true) (hi : (P.info? ty).map (·.size) = some cs.size) :
    (execOp a.eval o).run P w = .ok (.value (.agg cs)) w := by
  unfold execOp
  simp only [ho, hx, Instr.loadAt, Instr.sureAddr, Sem.run_bind, Sem.run_pure, Result.andThen_ok, run_loadVar_row w g t ty cs fr d hg hu hd hi]
theorem run_part_K {P : Program} {e : TypeId} {kd : TypeDesc} (w : World) (he : P.underlying e = some kd) (hd : kd.isRow = false) (k : IntKind) (l : List Int) (i : Nat) (hi : i < l.length) : (part e (K k l) i).run P w = .ok (.int k (l.getD i 0)) w := by
  have hagg : (isAgg e).run P w = .ok false w := by
    unfold isAgg
    rw [Sem.run_bind, run_underlying he w]
    cases kd <;> simp_all [TypeDesc.isRow]
  unfold part
  rw [Sem.run_bind, hagg]
  simp only [Result.andThen_ok, Bool.false_eq_true, if_false, K_get k l i hi, Sem.run_pure]
theorem run_eqItems_K {P : Program} {e : TypeId} (w : World) (d : Nat) (k : IntKind) (he : P.underlying e = some (.int k)) (l l' : List Int) : ∀ is : List Nat, (∀ i ∈ is, i < l.length ∧ i < l'.length) →
    (Op.eqItems (d + 1) e 1 (K k l) (K k l') is).run P w = .ok (is.all fun i => l.getD i 0 == l'.getD i 0) w
  | [], _ => by simp [Op.eqItems]
  | i :: is, h => by
    obtain ⟨h1, h2⟩ := h i (by simp)
    have ih := run_eqItems_K w d k he l l' is (fun j hj => h j (by simp [hj]))
    have hqq : (Op.equalIn (d + 1) e (.int k (l.getD i 0)) (.int k (l'.getD i 0))).run P w = .ok (l.getD i 0 == l'.getD i 0) w := run_equalIn_int w d e k k _ _ he
    simp only [Op.eqItems, Sem.run_bind, Nat.mul_one, run_part_K w he rfl k l i h1, run_part_K w he rfl k l' i h2, Result.andThen_ok, hqq, List.all_cons]
    cases hq : (l.getD i 0 == l'.getD i 0) with
    | true => simpa using ih
    | false => simp
theorem all_same (l l' : List Int) (n : Nat) (h : l.length = n) (h' : l'.length = n) : ((List.range n).all fun i => l.getD i 0 == l'.getD i 0) = decide (l = l') := by
  rw [Bool.eq_iff_iff, List.all_eq_true, decide_eq_true_iff]
  constructor
  · intro hall
    apply List.ext_getElem?
    intro i
    rcases Nat.lt_or_ge i n with hi | hi
    · have := hall i (by simpa using hi)
      simp only [beq_iff_eq] at this
      rw [List.getD_eq_getElem?_getD, List.getD_eq_getElem?_getD, List.getElem?_eq_getElem (by omega), List.getElem?_eq_getElem (by omega)] at this
      rw [List.getElem?_eq_getElem (by omega), List.getElem?_eq_getElem (by omega)]
      simpa using this
    · rw [List.getElem?_eq_none (by omega), List.getElem?_eq_none (by omega)]
  · rintro rfl i _
    simp
theorem run_equal_K {P : Program} {t e : TypeId} {n : Nat} (w : World) (k : IntKind) (ht : P.underlying t = some (.array n e)) (he : P.underlying e = some (.int k)) (hi : (P.info? e).isSome = true) (hc : P.cellsOf e = 1) (l l' : List Int) (h : l.length = n) (h' : l'.length = n) :
    (Op.equalIn 10000 t (.agg (K k l)) (.agg (K k l'))).run P w = .ok (decide (l = l')) w := by
  cases hq : P.info? e with
  | none => simp [hq] at hi
  | some j =>
    rw [show (10000 : Nat) = 9999 + 1 from rfl, run_equalIn_array w 9999 (K k l) (K k l') ht hq]
    rw [hc, run_eqItems_K w 9998 k he l l' _ (fun i hi => by have := List.mem_range.1 hi; omega), all_same l l' n h h']
theorem run_eql_K {P : Program} {t e : TypeId} {n : Nat} (w : World) (k : IntKind) (ht : P.underlying t = some (.array n e)) (he : P.underlying e = some (.int k)) (hi : (P.info? e).isSome = true) (hc : P.cellsOf e = 1) (l l' : List Int) (h : l.length = n) (h' : l'.length = n) :
    (binOp .eql t (.agg (K k l)) (.agg (K k l'))).run P w = .ok (.bool (decide (l = l'))) w := by
  rw [run_eql_struct, run_equal_K w k ht he hi hc l l' h h']
  rfl
end LW
end Go.Proofs.YtkgemkfajkcgcaaDoor
