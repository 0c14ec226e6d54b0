/-
  What the calls Check (the program) and Check (the document) give: the same number, for all parameters.
-/
import Derived.Test.YtkgemkfajkcgcaaDoorSmall
import Derived.Deep.RegionHeld3
namespace Go.Proofs.YtkgemkfajkcgcaaDoor
open Go.RowKit
set_option linter.unusedVariables false
namespace LW
open Words
theorem blk_keep {w w' : World} {b : Nat} {o : Obj} (h : w.heap[b]? = some o) (hb : Below w.heap.size w w') : w'.heap[b]? = some o := by
  rw [hb.block _ (Array.getElem?_eq_some_iff.1 h).1]; exact h
theorem below_of_drew {B : Nat} {w w' : World} (h : Below B w.drew w') : Below B w w' := ⟨h.os, h.tape, h.output, h.size, h.block⟩
theorem blk_cell {w : World} {b i : Nat} {cs : Array Value} {t : TypeId} {fr : Nat × Nat} {v : Value} (h : w.heap[b]? = some (.cells cs t fr)) (hv : cs[i]? = some v) : w.cell? ⟨b, i, none⟩ = some v := by
  simp [World.cell?, h, hv]
theorem blk_lt {w : World} {b : Nat} {o : Obj} (h : w.heap[b]? = some o) : b < w.heap.size := (Array.getElem?_eq_some_iff.1 h).1
/-- The cells of parameters. -/
def pc (d k f dp lf off xof nd inn : Int) (s t : Value) : Array Value := #[.int .i64 d, .int .i64 k, .int .i64 f, .int .i64 dp, .int .u32 lf, .int .u64 off, .int .u32 xof, .int .i64 nd, .int .i64 inn, s, t]
end LW
end Go.Proofs.YtkgemkfajkcgcaaDoor
