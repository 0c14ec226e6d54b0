/-
  The law on the number of this layer.
-/
import Derived.Test.YtfcbhbpillbapabSh3
namespace Go.Proofs.Ytfcbhbpillbapab
open Go.RowKit
set_option linter.unusedVariables false
namespace LW
open Words
/-- A tree of which the kind alone is told. -/
def T1 : Tr := ⟨1, 0, 0, 0, 0, 0, none, 0, 0, none, 0, 0, none, 0, 0⟩
theorem vd1 : vd T1 = 90 := by decide +kernel
theorem vd0 : vd T0 = 1 := by decide +kernel
set_option maxRecDepth 100000 in
set_option maxHeartbeats 1000000 in
theorem names (w : World) : Calls Try.prog 4 #[] w fun e w' => e = .returned (.bool true) ∧ Below w.heap.size w w' := by
  have h1 := fun W => valid T1 W
  rw [vd1, show trC T1 = #[.int .i64 1, .int .i64 0, .int .i64 0, .int .i64 0, .int .u32 0, .int .i64 0, .slice none 0 0, .slice none 0 0, .slice none 0 0] from rfl] at h1
  have h0 := fun W => valid T0 W
  rw [vd0, show trC T0 = #[.int .i64 0, .int .i64 0, .int .i64 0, .int .i64 0, .int .u32 0, .int .i64 0, .slice none 0 0, .slice none 0 0, .slice none 0 0] from rfl] at h0
  have H1 := TW.hide h1
  have H0 := TW.hide h0
  clear h1 h0
  go_enter Try.func4, Try.ntmps4
  go_wp2_with fail
  refine (H1.out _).mono ?_
  rintro e1 w1 ⟨rfl, hb1⟩
  have HB1 := TW.hide hb1
  clear hb1
  go_wp2_with fail
  refine (H0.out _).mono ?_
  rintro e2 w2 ⟨rfl, hb2⟩
  have HB2 : Hid (Below w.heap.size w w2) := HB1.out.trans (hb2.mono HB1.out.size)
  clear hb2 HB1
  go_wp2
  go_ret
  exact ⟨rfl, HB2.out⟩
end LW
end Go.Proofs.Ytfcbhbpillbapab
