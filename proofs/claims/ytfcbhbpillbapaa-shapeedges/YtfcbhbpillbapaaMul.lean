/-
  What math/bits.Mul64 gives where the second number is small, and what the document's times gives.
-/
import Derived.Lib.Mul64
import Derived.Shelf.Bits.Mul64
import Derived.Test.YtfcbhbpillbapaaSh3
namespace Go.Proofs.Ytfcbhbpillbapaa
open Go.RowKit
set_option linter.unusedVariables false
set_option linter.unusedSimpArgs false
namespace LW
open Words
set_option maxRecDepth 100000 in
set_option maxHeartbeats 1000000 in
theorem mul64 (x b : Nat) (hx : x < 18446744073709551616) (hb : b ≤ 255) (w : World) : Calls Try.prog 40 #[.int .u64 x, .int .u64 b] w fun e w' => e = .returned (.tuple #[.int .u64 (x * b / 18446744073709551616 : Nat), .int .u64 (x * b % 18446744073709551616 : Nat)]) ∧ w' = w := by
  go_enter Try.func40, Try.ntmps40
  go_wp2
  go_ret2
  obtain ⟨h1, h2, h3, h4⟩ := Go.Lib.mul64_hi x b hx (by omega)
  have hb1 : b % 4294967296 = b := by omega
  have hb2 : b / 4294967296 = 0 := by omega
  rw [hb1] at h1 h2 h3 h4
  rw [hb2] at h3 h4
  simp only [Nat.mul_zero, Nat.add_zero, Nat.zero_add] at h3 h4
  have y1 : (b : Int) / 4294967296 = 0 := by omega
  have y0 : bits .and .u64 (b : Int) 4294967295 = (b : Int) := by rw [Mul64.maskN b (by omega), hb1]
  have x0 := Mul64.maskN x hx
  have x1 := Mul64.divN x
  have x1l : x / 4294967296 < 4294967296 := by omega
  have x0l : x % 4294967296 < 4294967296 := by omega
  refine ⟨ret_two ?_ ?_, rfl⟩
  · rw [y1, y0, x0, x1]
    generalize x / 4294967296 = p at *
    generalize x % 4294967296 = q at *
    simp only [Int.mul_zero]
    rw [← Int.natCast_mul, ← Int.natCast_mul]
    have k1 := Nat.mul_le_mul (Nat.le_of_lt x1l) hb
    have k2 := Nat.mul_le_mul (Nat.le_of_lt x0l) hb
    generalize p * b = pb at *
    generalize q * b = qb at *
    rw [show IntKind.u64.wrap (pb : Int) = (pb : Int) by rw [IntKind.wrap_u64]; omega, show IntKind.u64.wrap (qb : Int) = (qb : Int) by rw [IntKind.wrap_u64]; omega,
      show IntKind.u64.wrap 0 = 0 from rfl]
    rw [show IntKind.u64.wrap ((pb : Int) + (qb : Int) / 4294967296) = ((pb + qb / 4294967296 : Nat) : Int) by rw [IntKind.wrap_u64]; omega]
    rw [Mul64.maskN _ (by omega)]
    simp only [Int.zero_add, Int.add_zero]
    rw [← h4]
    generalize pb + qb / 4294967296 = t at *
    simp only [IntKind.wrap_u64]
    omega
  · rw [← Int.natCast_mul, IntKind.wrap_u64]
    omega
/-- The document's product. -/
def tm (x b : Nat) : Nat := if 18446744073709551616 ≤ x * b then 0 else x * b
set_option maxHeartbeats 1000000 in
theorem times (x b : Nat) (hx : x < 18446744073709551616) (hb0 : 0 < b) (hb : b ≤ 255) (w : World) : Calls Try.prog 41 #[.int .u64 x, .int .u64 b] w fun e w' => e = .returned (.tuple #[.int .u64 (tm x b : Nat), .bool (decide (x * b < 18446744073709551616))]) ∧ w' = w := by
  have hd : (18446744073709551615 : Int) / (b : Int) = ((18446744073709551615 / b : Nat) : Int) := by rw [Int.natCast_ediv]; rfl
  have hl : 18446744073709551615 / b ≤ 18446744073709551615 := Nat.div_le_self _ _
  have hw : IntKind.u64.wrap ((18446744073709551615 : Int) / (b : Int)) = ((18446744073709551615 / b : Nat) : Int) := by
    rw [hd, IntKind.wrap_u64]
    generalize 18446744073709551615 / b = q at *
    omega
  have hk : 18446744073709551615 / b < x ↔ 18446744073709551616 ≤ x * b := by
    rw [Nat.div_lt_iff_lt_mul hb0]
    omega
  have hb' : ¬ (b : Int) = 0 := by omega
  unfold tm
  by_cases hc : 18446744073709551615 / b < x
  · have hc' : ((18446744073709551615 / b : Nat) : Int) < (x : Int) := by omega
    rw [if_pos (hk.1 hc), decide_eq_false (by have := hk.1 hc; omega)]
    clear hk hl hc
    generalize 18446744073709551615 / b = q at *
    go_enter Try.func41, Try.ntmps41
    go_wp2
    go_ret2
    exact ⟨rfl, rfl⟩
  · have hc' : ¬ ((18446744073709551615 / b : Nat) : Int) < (x : Int) := by omega
    have hm : ¬ 18446744073709551616 ≤ x * b := fun h => hc (hk.2 h)
    rw [if_neg hm, decide_eq_true (by omega)]
    have hwm : IntKind.u64.wrap ((x : Int) * (b : Int)) = ((x * b : Nat) : Int) := by rw [← Int.natCast_mul, IntKind.wrap_u64]; omega
    clear hk hl hc hm
    generalize 18446744073709551615 / b = q at *
    generalize x * b = p at *
    go_enter Try.func41, Try.ntmps41
    go_wp2
    go_ret2
    exact ⟨rfl, rfl⟩
end LW
end Go.Proofs.Ytfcbhbpillbapaa
