/-
  Perm as plain mathematics.
-/
import Derived.Test.YtkgemkfajkcgcaaDoorBln
namespace Go.Proofs.YtkgemkfajkcgcaaDoor
open Go.RowKit
set_option linter.unusedVariables false
set_option linter.unusedSimpArgs false
set_option maxRecDepth 100000
namespace LW
open Turn
/-- Four words are put at four places. -/
def put4 (vs : List Int) (p0 p1 p2 p3 : Nat) (r : Int × Int × Int × Int) : List Int := (((vs.set p0 r.1).set p1 r.2.1).set p2 r.2.2.1).set p3 r.2.2.2
theorem put4_length (vs : List Int) (p0 p1 p2 p3 : Nat) (r : Int × Int × Int × Int) : (put4 vs p0 p1 p2 p3 r).length = vs.length := by simp [put4]
/-- The places of a step. -/
def pl (i j : Nat) : Nat := (plL.getD (i * 4 + j) 0).toNat
/-- A step on four places. -/
def G4 (vs : List Int) (p0 p1 p2 p3 : Nat) : List Int := put4 vs p0 p1 p2 p3 (blL (vs.getD p0 0) (vs.getD p1 0) (vs.getD p2 0) (vs.getD p3 0))
/-- The first steps of a row. -/
def pmTo (vs : List Int) : Nat → List Int
  | 0 => vs
  | i + 1 => G4 (pmTo vs i) (pl i 0) (pl i 1) (pl i 2) (pl i 3)
/-- A row behind its eight steps. -/
def pmL (vs : List Int) : List Int := pmTo vs 8
theorem put4_Ws {vs : List Int} (p0 p1 p2 p3 : Nat) {r : Int × Int × Int × Int} (h : Ws vs) (h0 : W r.1) (h1 : W r.2.1) (h2 : W r.2.2.1) (h3 : W r.2.2.2) : Ws (put4 vs p0 p1 p2 p3 r) :=
  (((h.set h0 _).set h1 _).set h2 _).set h3 _
theorem G4_length (vs : List Int) (p0 p1 p2 p3 : Nat) : (G4 vs p0 p1 p2 p3).length = vs.length := put4_length _ _ _ _ _ _
theorem G4_Ws {vs : List Int} (p0 p1 p2 p3 : Nat) (h : Ws vs) : Ws (G4 vs p0 p1 p2 p3) := by
  obtain ⟨h0, h1, h2, h3⟩ := blL_bd (vs.getD p0 0) (vs.getD p1 0) (vs.getD p2 0) (vs.getD p3 0)
  exact put4_Ws _ _ _ _ h h0 h1 h2 h3
theorem pmTo_length (vs : List Int) (i : Nat) : (pmTo vs i).length = vs.length := by
  induction i with
  | zero => rfl
  | succ i ih => rw [pmTo, G4_length, ih]
theorem pmTo_Ws {vs : List Int} (i : Nat) (h : Ws vs) : Ws (pmTo vs i) := by
  induction i with
  | zero => exact h
  | succ i ih => exact G4_Ws _ _ _ _ ih
theorem pmL_length (vs : List Int) : (pmL vs).length = vs.length := pmTo_length vs 8
theorem pmL_Ws {vs : List Int} (h : Ws vs) : Ws (pmL vs) := pmTo_Ws 8 h
theorem pl_all : ∀ i, i < 8 → pl i 0 < 16 ∧ pl i 1 < 16 ∧ pl i 2 < 16 ∧ pl i 3 < 16 ∧ pl i 0 ≠ pl i 1 ∧ pl i 0 ≠ pl i 2 ∧ pl i 0 ≠ pl i 3 ∧ pl i 1 ≠ pl i 2 ∧ pl i 1 ≠ pl i 3 ∧ pl i 2 ≠ pl i 3 ∧
    (plL.drop (i * 4)).take 4 = [(pl i 0 : Int), (pl i 1 : Int), (pl i 2 : Int), (pl i 3 : Int)] := by
  intro i hi
  have : i = 0 ∨ i = 1 ∨ i = 2 ∨ i = 3 ∨ i = 4 ∨ i = 5 ∨ i = 6 ∨ i = 7 := by omega
  rcases this with rfl | rfl | rfl | rfl | rfl | rfl | rfl | rfl <;> decide +kernel
theorem blk_other {w : World} {g p o : Nat} {u : Value} {ob : Obj} (h : w.heap[g]? = some ob) (hne : g ≠ p) : (w.setCell ⟨p, o, none⟩ u).heap[g]? = some ob := by
  rw [heap_setCell_other _ _ _ _ hne]; exact h
theorem heap_new (w : World) (o : Obj) : (w.alloc o).heap[w.heap.size]? = some o := heap_alloc_new w o
/-- The first k of a list, and noughts behind them. -/
def upto (l : List Int) (n k : Nat) : List Int := l.take k ++ List.replicate (n - k) 0
theorem upto_length (l : List Int) (n k : Nat) (hl : l.length = n) (hk : k ≤ n) : (upto l n k).length = n := by simp [upto]; omega
theorem upto_set (l : List Int) (n k : Nat) (hl : l.length = n) (hk : k < n) : (upto l n k).set k (l.getD k 0) = upto l n (k + 1) := by
  have e : n - k = n - (k + 1) + 1 := by omega
  unfold upto
  rw [List.set_append_right _ _ (by simp; omega), LW.take_snoc l k (by omega), List.length_take, show k - min k l.length = 0 by omega, e, List.replicate_succ, List.set_cons_zero, List.append_assoc]
  rfl
theorem upto_full (l : List Int) (n : Nat) (hl : l.length = n) : upto l n n = l := by simp [upto, ← hl]
theorem ex4 (i : Nat) (hi : i < 8) : (K .u8 plL).extract (i * 4) (i * 4 + 4) = #[.int .u8 (pl i 0), .int .u8 (pl i 1), .int .u8 (pl i 2), .int .u8 (pl i 3)] := by
  have : i = 0 ∨ i = 1 ∨ i = 2 ∨ i = 3 ∨ i = 4 ∨ i = 5 ∨ i = 6 ∨ i = 7 := by omega
  rcases this with rfl | rfl | rfl | rfl | rfl | rfl | rfl | rfl <;> rfl
end LW
end Go.Proofs.YtkgemkfajkcgcaaDoor
