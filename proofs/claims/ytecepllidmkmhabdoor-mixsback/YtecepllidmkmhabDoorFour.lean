/-
  What the call fourPlaces gives.
-/
import Derived.Test.YtecepllidmkmhabDoorRPlaces
namespace Go.Proofs.YtecepllidmkmhabDoor
open Go.RowKit
set_option linter.unusedVariables false
set_option linter.unusedSimpArgs false
namespace MX
set_option maxHeartbeats 1000000 in
theorem fourPlaces (a b c d : Int) (w : World) : Calls Tryd.prog 30 #[.int .i64 a, .int .i64 b, .int .i64 c, .int .i64 d] w fun e w' => e = .returned (.bool (fpB a b c d)) ∧ w = w' := by
  obtain ⟨q, hq⟩ : ∃ q, fpB a b c d = q := ⟨_, rfl⟩
  have ha := fun X => isPlace a X
  have hb := fun X => isPlace b X
  have hc := fun X => isPlace c X
  have hd := fun X => isPlace d X
  rw [hq]
  unfold fpB pB at hq
  generalize (decide (0 ≤ a) && decide (a < 16)) = p1 at *
  generalize (decide (0 ≤ b) && decide (b < 16)) = p2 at *
  generalize (decide (0 ≤ c) && decide (c < 16)) = p3 at *
  generalize (decide (0 ≤ d) && decide (d < 16)) = p4 at *
  obtain ⟨e1, h1⟩ : ∃ e, (a != b) = e := ⟨_, rfl⟩
  obtain ⟨e2, h2⟩ : ∃ e, (a != c) = e := ⟨_, rfl⟩
  obtain ⟨e3, h3⟩ : ∃ e, (a != d) = e := ⟨_, rfl⟩
  obtain ⟨e4, h4⟩ : ∃ e, (b != c) = e := ⟨_, rfl⟩
  obtain ⟨e5, h5⟩ : ∃ e, (b != d) = e := ⟨_, rfl⟩
  obtain ⟨e6, h6⟩ : ∃ e, (c != d) = e := ⟨_, rfl⟩
  rw [h1, h2, h3, h4, h5, h6] at hq
  have HQ := TW.hide hq
  have HA := TW.hide ha
  have HB := TW.hide hb
  have HC := TW.hide hc
  have HD := TW.hide hd
  clear hq ha hb hc hd
  go_enter Tryd.func30, Tryd.ntmps30
  go_wp2_with (first | (go_at_call_of 42 (Value.int IntKind.i64 a); refine (HA.out _).mono ?_; rintro e w' ⟨rfl, rfl⟩) | (go_at_call_of 42 (Value.int IntKind.i64 b); refine (HB.out _).mono ?_; rintro e w' ⟨rfl, rfl⟩) | (go_at_call_of 42 (Value.int IntKind.i64 c); refine (HC.out _).mono ?_; rintro e w' ⟨rfl, rfl⟩) | (go_at_call_of 42 (Value.int IntKind.i64 d); refine (HD.out _).mono ?_; rintro e w' ⟨rfl, rfl⟩))
  all_goals
    go_ret
    have hq := HQ.out
    refine ⟨LW.ret_bool ?_, rfl⟩
    rw [← hq]
    simp_all
end MX
end Go.Proofs.YtecepllidmkmhabDoor
