/-
  What the small calls of shape, and the document's, give: whether a number lies outside, whether bytes fill, how many parts there are.
-/
import Derived.Test.YtcpegipojkbcoaaPlain
namespace Go.Proofs.Ytcpegipojkbcoaa
open Go.RowKit
set_option linter.unusedVariables false
set_option linter.unusedSimpArgs false
namespace LW
open Words
/-- A number lies outside. -/
def ou (n a b : Int) : Bool := decide (n < a) || decide (b < n)
theorem outside (n a b : Int) (w : World) : Calls Try.prog 44 #[.int .i64 n, .int .i64 a, .int .i64 b] w fun e w' => e = .returned (.bool (ou n a b)) ∧ w' = w := by
  unfold ou
  by_cases h1 : n < a
  · go_enter Try.func44, Try.ntmps44
    go_wp2
    go_ret
    exact ⟨by simp [h1], rfl⟩
  · go_enter Try.func44, Try.ntmps44
    go_wp2
    go_ret
    exact ⟨by simp; omega, rfl⟩
/-- Bytes of that number may be a salt. -/
def fi (k : Int) (n : Nat) : Bool := (n : Int) == 0 || (n : Int) == if k = 2 then 8 else 16
theorem fills (k : Int) (a : Option Addr) (n c : Nat) (w : World) : Calls Try.prog 45 #[.int .i64 k, .slice a n c] w fun e w' => e = .returned (.bool (fi k n)) ∧ w' = w := by
  unfold fi
  by_cases h1 : k = 2 <;> by_cases h2 : (n : Int) = 0
  all_goals
    go_enter Try.func45, Try.ntmps45
    go_wp2
    go_ret
    exact ⟨by simp, rfl⟩
/-- How many parts there are. -/
def up (n b : Nat) : Nat := if n % b = 0 then n / b else n / b + 1
theorem quo64 (n b : Nat) (hn : n < 18446744073709551616) : IntKind.u64.wrap ((n : Int) / (b : Int)) = ((n / b : Nat) : Int) := by
  rw [IntKind.wrap_u64, ← Int.natCast_ediv]
  have := Nat.div_le_self n b
  generalize n / b = q at *
  omega
theorem quo64' (n b : Nat) (hn : n < 18446744073709551616) (h1 : ¬ n % b = 0) : IntKind.u64.wrap (((n / b : Nat) : Int) + 1) = ((n / b + 1 : Nat) : Int) := by
  rw [IntKind.wrap_u64]
  have : n / b ≤ n / 2 := by
    rcases Nat.lt_or_ge b 2 with h | h
    · have : b = 0 ∨ b = 1 := by omega
      rcases this with rfl | rfl
      · rw [Nat.div_zero]; omega
      · exact absurd (Nat.mod_one n) h1
    · exact Nat.div_le_div_left h (by omega)
  generalize n / b = q at *
  omega
theorem parts (n b : Nat) (hb : 0 < b) (hn : n < 18446744073709551616) (w : World) : Calls Try.prog 56 #[.int .u64 n, .int .u64 b] w fun e w' => e = .returned (.int .u64 (up n b : Nat)) ∧ w' = w := by
  unfold up
  by_cases h1 : n % b = 0
  · go_enter Try.func56, Try.ntmps56
    go_wp2
    go_ret
    exact ⟨TW.ret_int (by rw [quo64 n b hn]; simp), rfl⟩
  · go_enter Try.func56, Try.ntmps56
    go_wp2
    go_ret
    exact ⟨TW.ret_int (by rw [quo64 n b hn, quo64' n b hn h1]; simp), rfl⟩
theorem rup (n b : Nat) (hb : 0 < b) (hn : n < 18446744073709551616) (w : World) : Calls Try.prog 58 #[.int .u64 n, .int .u64 b] w fun e w' => e = .returned (.int .u64 (up n b : Nat)) ∧ w' = w := by
  unfold up
  by_cases h1 : n % b = 0
  · go_enter Try.func58, Try.ntmps58
    go_wp2
    go_ret
    exact ⟨TW.ret_int (by rw [quo64 n b hn]; simp), rfl⟩
  · go_enter Try.func58, Try.ntmps58
    go_wp2
    go_ret
    exact ⟨TW.ret_int (by rw [quo64 n b hn, quo64' n b hn h1]; simp), rfl⟩
theorem rsizes (k : Int) (w : World) : Calls Try.prog 47 #[.int .i64 k] w fun e w' => e = .returned (.tuple #[.int .i64 (mo k), .int .i64 (mo k / 4)]) ∧ w' = w := by
  rcases kinds k with rfl | rfl | ⟨h1, h2⟩
  · go_enter Try.func47, Try.ntmps47
    go_wp2
    go_ret2
    exact ⟨rfl, rfl⟩
  · go_enter Try.func47, Try.ntmps47
    go_wp2
    go_ret2
    exact ⟨rfl, rfl⟩
  · have e1 : mo k = 0 := by simp [mo, h1, h2]
    have h3 : (k == 1) = false := by simp [h1]
    have h4 : (k == 2) = false := by simp [h2]
    rw [e1]
    clear e1
    go_enter Try.func47, Try.ntmps47
    go_wp2
    go_ret2
    exact ⟨rfl, rfl⟩
end LW
end Go.Proofs.Ytcpegipojkbcoaa
