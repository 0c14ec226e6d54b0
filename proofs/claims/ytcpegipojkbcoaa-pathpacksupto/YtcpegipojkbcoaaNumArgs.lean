/-
  Numbers among a law's arguments, and rows of numbers.
-/
import Derived.Test.YtcpegipojkbcoaaTreeArgs
import Derived.Test.YtcpegipojkbcoaaSh6
namespace Go.Proofs.Ytcpegipojkbcoaa
open Go.ChangeShapes Go.WideShapes Go.ChangeAt Go.RowKit Go.Joins
set_option linter.unusedVariables false
namespace LW
theorem u64_nat {n0 : Int} (hr : (Lit.int .u64 n0).wf = true) : ∃ n : Nat, n0 = (n : Int) ∧ n < 18446744073709551616 := by
  have h := bounds_u64 hr
  exact ⟨n0.toNat, by omega, by omega⟩
/-- What a slice of the call's own holds, where there is something. -/
theorem ur_own {w : World} {B : Nat} {v : Value} {L : List Nat} (hL : L ≠ []) (h : w.ownsRow B 27 1 v L.length (us L)) : ∃ a cap, v = .slice a L.length cap ∧ UR w a L := by
  cases L with
  | nil => exact absurd rfl hL
  | cons x l =>
    obtain ⟨a, cap, e, h1, _⟩ := ur_of_own h
    exact ⟨a, cap, e, h1⟩
end LW
end Go.Proofs.Ytcpegipojkbcoaa
