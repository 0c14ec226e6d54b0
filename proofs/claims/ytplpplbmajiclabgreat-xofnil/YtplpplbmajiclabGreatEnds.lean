/-
  What the call withoutEnd gives: the bytes without the noughts at their end.
-/
import Derived.Test.YtplpplbmajiclabGreatClone
namespace Go.Proofs.YtplpplbmajiclabGreat
open Go.RowKit
set_option linter.unusedVariables false
namespace LW
open Words
/-- How many of the first n bytes are left. -/
def tn (zs : List Int) : Nat → Nat
  | 0 => 0
  | n + 1 => if zs.getD n 0 = 0 then tn zs n else n + 1
theorem tn_le (zs : List Int) : ∀ n, tn zs n ≤ n
  | 0 => Nat.le_refl _
  | n + 1 => by have := tn_le zs n; unfold tn; split <;> omega
/-- Bytes without the noughts at their end. -/
def tr (zs : List Int) : List Int := zs.take (tn zs zs.length)
theorem tr_length (zs : List Int) : (tr zs).length = tn zs zs.length := by
  have := tn_le zs zs.length
  simp [tr]; omega
theorem Byt.tr {zs : List Int} (h : Byt zs) : Byt (tr zs) := h.take _
theorem Row.tr {w : World} {a : Option Addr} {zs : List Int} (h : Row w a zs) : Row w a (tr zs) := by
  rcases h with rfl | ⟨b, off, rfl, hc⟩
  · exact .inl rfl
  · refine .inr ⟨b, off, rfl, fun i hi => ?_⟩
    rw [tr_length] at hi
    have hle := tn_le zs zs.length
    rw [hc i (by omega)]
    simp [LW.tr, List.getD_eq_getElem?_getD, hi]
end LW
end Go.Proofs.YtplpplbmajiclabGreat
