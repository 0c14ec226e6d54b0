/-
  What the small calls of param give: the kinds' measures, a field's place, whether a number has room.
-/
import Derived.Test.YtkgemkfajkcgcaaDoorTable
import Derived.Laws.ShiftsVarLaws
namespace Go.Proofs.YtkgemkfajkcgcaaDoor
open Go.RowKit
set_option linter.unusedVariables false
namespace LW
open Words
/-- The most of a kind, 0 of none. -/
def mo (k : Int) : Int := if k = 1 then 64 else if k = 2 then 32 else 0
/-- The error of a kind. -/
def ke (k : Int) : Int := if k = 1 then 0 else if k = 2 then 0 else 1
def msC (k : Int) : Array Value := #[.int .i64 (mo k), .int .i64 (mo k), .int .i64 (mo k / 4), .int .i64 (mo k / 8), .int .i64 (if k = 1 then 18 else 0), .int .i64 (if k = 1 then 14 else 0)]
theorem kinds (k : Int) : k = 1 ∨ k = 2 ∨ (k ≠ 1 ∧ k ≠ 2) := by omega

/-- Where a field stands. -/
def rAt (k f : Int) : Int := if f ≤ 4 then f - 1 else if f = 5 then 4 else if f = 6 then 8 else if f = 7 then 12 else if f = 8 then (if k = 2 then 14 else 16) else if f = 9 then (if k = 2 then 15 else 17) else if f = 10 then (if k = 2 then 16 else 32) else if k = 2 then 24 else 48
/-- How many bytes it has. -/
def rSz (k f : Int) : Int := if f ≤ 4 then 1 else if f = 5 then 4 else if f = 6 then (if k = 2 then 6 else 8) else if f = 7 then (if k = 2 then 2 else 4) else if f ≤ 9 then 1 else if k = 2 then 8 else 16
theorem fieldCases (f : Int) (h1 : 1 ≤ f) (h2 : f ≤ 11) : f = 1 ∨ f = 2 ∨ f = 3 ∨ f = 4 ∨ f = 5 ∨ f = 6 ∨ f = 7 ∨ f = 8 ∨ f = 9 ∨ f = 10 ∨ f = 11 := by omega
def nmOf (f : Int) : ByteArray := if f = 1 then { data := #[100, 105, 103, 101, 115, 116] } else if f = 2 then { data := #[107, 101, 121] } else if f = 3 then { data := #[102, 97, 110, 111, 117, 116] } else if f = 4 then { data := #[100, 101, 112, 116, 104] } else if f = 5 then { data := #[108, 101, 97, 102] } else if f = 6 then { data := #[111, 102, 102, 115, 101, 116] } else if f = 7 then { data := #[120, 111, 102] } else if f = 8 then { data := #[110, 111, 100, 101] } else if f = 9 then { data := #[105, 110, 110, 101, 114] } else if f = 10 then { data := #[115, 97, 108, 116] } else if f = 11 then { data := #[112, 101, 114, 115, 111, 110, 97, 108] } else .empty
def erOf (f : Int) : Int := if f = 1 then 20 else if f = 2 then 8 else if f = 3 then 21 else if f = 4 then 22 else if f = 5 then 1 else if f = 6 then 23 else if f = 7 then 24 else if f = 8 then 25 else if f = 9 then 26 else if f = 10 then 27 else if f = 11 then 28 else 0
theorem r_not2 (k f : Int) (h : k ≠ 2) : rAt k f = rAt 1 f ∧ rSz k f = rSz 1 f := by simp [rAt, rSz, h]
theorem blk_set {w : World} {g : Nat} {cs : Array Value} {t : TypeId} {fr : Nat × Nat} {i : Nat} {u : Value} (h : w.heap[g]? = some (.cells cs t fr)) : (w.setCell ⟨g, i, none⟩ u).heap[g]? = some (.cells (cs.setIfInBounds i u) t fr) := by
  rw [setCell_eq_setRow w g i cs t fr u h]; exact setRow_heap _ _ _ _ _ _ h
theorem blk_alloc {w : World} {g : Nat} {o o' : Obj} (h : w.heap[g]? = some o) : (w.alloc o').heap[g]? = some o := by
  have hlt : g < w.heap.size := (Array.getElem?_eq_some_iff.1 h).1
  rw [Below.heap_alloc _ _ _ hlt]; exact h
theorem blk_new {w w1 : World} {o : Obj} (h : Below (w.alloc o).heap.size (w.alloc o) w1) : w1.heap[w.heap.size]? = some o := by
  rw [h.block _ (by simp)]; exact heap_alloc_new w _
theorem cell_two {w w1 : World} {a b : Value} {t : TypeId} (h : Below (w.alloc (.cells #[a, b] t)).heap.size (w.alloc (.cells #[a, b] t)) w1) :
    w1.cell? ⟨w.heap.size, 0, none⟩ = some a ∧ w1.cell? ⟨w.heap.size, 1, none⟩ = some b ∧ w1.frozen? ⟨w.heap.size, 0, none⟩ = false ∧ w1.frozen? ⟨w.heap.size, 1, none⟩ = false := by
  have hc : w1.heap[w.heap.size]? = some (.cells #[a, b] t (0, 0)) := by rw [h.block _ (by simp)]; exact heap_alloc_new w _
  simp [World.cell?, World.frozen?, hc]
end LW
end Go.Proofs.YtkgemkfajkcgcaaDoor
