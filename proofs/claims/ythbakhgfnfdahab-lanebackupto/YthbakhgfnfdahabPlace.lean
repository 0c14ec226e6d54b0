/-
  What the calls holds and placeOf give.
-/
import Derived.Test.YthbakhgfnfdahabSmall
namespace Go.Proofs.Ythbakhgfnfdahab
open Go.RowKit
set_option linter.unusedVariables false
namespace LW
open Words
theorem div_zero_iff (n : Int) (m : Nat) (hn : 0 ≤ n) : n / 2 ^ m = 0 ↔ n < 2 ^ m := by
  have hp : (0 : Int) < 2 ^ m := Int.pow_pos (by decide)
  constructor
  · intro h
    have := Int.emod_lt_of_pos n hp
    have h2 := Int.mul_ediv_add_emod n (2 ^ m)
    rw [h] at h2
    simp at h2
    omega
  · intro h; exact Int.ediv_eq_zero_of_lt hn h
theorem holdsFact (n : Int) (sz : Nat) (hn : 0 ≤ n) (hn' : n < 18446744073709551616) : (n / 2 ^ min (8 * (sz : Int)).toNat IntKind.u64.bits == 0) = decide (n < 2 ^ (8 * sz)) := by
  have e : IntKind.u64.bits = 64 := rfl
  have e2 : (8 * (sz : Int)).toNat = 8 * sz := by omega
  rw [e, e2, Bool.eq_iff_iff]
  simp only [beq_iff_eq, decide_eq_true_eq]
  rw [div_zero_iff _ _ hn]
  by_cases h : 8 * sz ≤ 64
  · rw [Nat.min_eq_left h]
  · rw [Nat.min_eq_right (by omega)]
    have h64 : (2 : Int) ^ 64 = 18446744073709551616 := by decide
    have hle : (2 : Int) ^ 64 ≤ 2 ^ (8 * sz) := by
      have := Nat.pow_le_pow_right (n := 2) (by omega) (show 64 ≤ 8 * sz by omega)
      exact_mod_cast this
    omega
/-- How many bytes a field has in one of the forms. -/
def pSz (k f : Int) (x : Bool) : Int := if f = 6 ∧ x = true then 4 else if f = 7 ∧ x = false then 0 else rSz k f
end LW
end Go.Proofs.Ythbakhgfnfdahab
