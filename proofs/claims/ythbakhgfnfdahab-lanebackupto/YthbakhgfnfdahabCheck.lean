/-
  What the calls Check (the program) and Check (the document) give: the same number, for all parameters.
-/
import Derived.Test.YthbakhgfnfdahabPlace
import Derived.Deep.RegionHeld3
namespace Go.Proofs.Ythbakhgfnfdahab
open Go.RowKit
set_option linter.unusedVariables false
namespace LW
open Words
theorem blk_keep {w w' : World} {b : Nat} {o : Obj} (h : w.heap[b]? = some o) (hb : Below w.heap.size w w') : w'.heap[b]? = some o := by
  rw [hb.block _ (Array.getElem?_eq_some_iff.1 h).1]; exact h
theorem below_of_drew {B : Nat} {w w' : World} (h : Below B w.drew w') : Below B w w' := ⟨h.os, h.tape, h.output, h.size, h.block⟩
theorem blk_cell {w : World} {b i : Nat} {cs : Array Value} {t : TypeId} {fr : Nat × Nat} {v : Value} (h : w.heap[b]? = some (.cells cs t fr)) (hv : cs[i]? = some v) : w.cell? ⟨b, i, none⟩ = some v := by
  simp [World.cell?, h, hv]
theorem blk_lt {w : World} {b : Nat} {o : Obj} (h : w.heap[b]? = some o) : b < w.heap.size := (Array.getElem?_eq_some_iff.1 h).1
/-- The cells of parameters. -/
def pc (d k f dp lf off xof nd inn : Int) (s t : Value) : Array Value := #[.int .i64 d, .int .i64 k, .int .i64 f, .int .i64 dp, .int .u32 lf, .int .u64 off, .int .u32 xof, .int .i64 nd, .int .i64 inn, s, t]
/-- What Check tells once the kind is one. -/
def ckG (m m4 : Int) (x : Bool) (s6 s7 : Nat) (d k f dp off xof nd inn : Int) (sl tl : Nat) : Int :=
  if d < 1 ∨ m < d then 20 else if k < 0 ∨ m < k then 8 else if f < 0 ∨ 255 < f then 21 else if dp < 0 ∨ 255 < dp then 22 else if dp = 0 ∧ x = false then 22
  else if ¬ off < 2 ^ (8 * s6) then 23 else if ¬ xof < 2 ^ (8 * s7) then 24 else if nd < 0 ∨ 255 < nd then 25 else if inn < 0 ∨ m < inn then 26 else if m4 < sl then 27 else if m4 < tl then 28 else 0
/-- What Check tells. -/
def ck (kd d k f dp off xof nd inn : Int) (sl tl : Nat) : Int :=
  if kd = 1 then ckG 64 16 (xof != 0) (if xof = 0 then 8 else 4) (if xof = 0 then 0 else 4) d k f dp off xof nd inn sl tl
  else if kd = 2 then ckG 32 8 (xof != 0) (if xof = 0 then 6 else 4) (if xof = 0 then 0 else 2) d k f dp off xof nd inn sl tl else 1

theorem pSz6 (kd : Int) (xof : Int) : pSz kd 6 (xof != 0) = (((if xof = 0 then (if kd = 2 then 6 else 8) else 4 : Nat)) : Int) := by
  unfold pSz rSz
  by_cases h : xof = 0 <;> by_cases h2 : kd = 2 <;> simp [h, h2]
theorem pSz7 (kd : Int) (xof : Int) : pSz kd 7 (xof != 0) = (((if xof = 0 then 0 else (if kd = 2 then 2 else 4) : Nat)) : Int) := by
  unfold pSz rSz
  by_cases h : xof = 0 <;> by_cases h2 : kd = 2 <;> simp [h, h2]
end LW
end Go.Proofs.Ythbakhgfnfdahab
