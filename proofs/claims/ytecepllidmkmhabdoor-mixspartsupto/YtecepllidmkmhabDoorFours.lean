/-
  What the call four of the document gives.
-/
import Derived.Test.YtecepllidmkmhabDoorRoundL
namespace Go.Proofs.YtecepllidmkmhabDoor
open Go.RowKit
set_option linter.unusedVariables false
set_option linter.unusedSimpArgs false
namespace MX
set_option maxRecDepth 100000 in
theorem rfour (i : Nat) (w : World) (hi : i < 8) : Calls Tryd.prog 46 #[.int .i64 i] w fun e w' => e = .returned (.tuple #[.int .i64 (pl i 0), .int .i64 (pl i 1), .int .i64 (pl i 2), .int .i64 (pl i 3)]) ∧ w = w' := by
  have : i = 0 ∨ i = 1 ∨ i = 2 ∨ i = 3 ∨ i = 4 ∨ i = 5 ∨ i = 6 ∨ i = 7 := by omega
  rcases this with rfl | rfl | rfl | rfl | rfl | rfl | rfl | rfl
  · go_enter Tryd.func46, Tryd.ntmps46
    go_wp2
    exact bodyPost_ret (v := .tuple #[.int .i64 0, .int .i64 4, .int .i64 8, .int .i64 12]) (by simp [results, Tryd.results46, go_sem]) rfl ⟨rfl, rfl⟩
  · go_enter Tryd.func46, Tryd.ntmps46
    go_wp2
    exact bodyPost_ret (v := .tuple #[.int .i64 1, .int .i64 5, .int .i64 9, .int .i64 13]) (by simp [results, Tryd.results46, go_sem]) rfl ⟨rfl, rfl⟩
  · go_enter Tryd.func46, Tryd.ntmps46
    go_wp2
    exact bodyPost_ret (v := .tuple #[.int .i64 2, .int .i64 6, .int .i64 10, .int .i64 14]) (by simp [results, Tryd.results46, go_sem]) rfl ⟨rfl, rfl⟩
  · go_enter Tryd.func46, Tryd.ntmps46
    go_wp2
    exact bodyPost_ret (v := .tuple #[.int .i64 3, .int .i64 7, .int .i64 11, .int .i64 15]) (by simp [results, Tryd.results46, go_sem]) rfl ⟨rfl, rfl⟩
  · go_enter Tryd.func46, Tryd.ntmps46
    go_wp2
    exact bodyPost_ret (v := .tuple #[.int .i64 0, .int .i64 5, .int .i64 10, .int .i64 15]) (by simp [results, Tryd.results46, go_sem]) rfl ⟨rfl, rfl⟩
  · go_enter Tryd.func46, Tryd.ntmps46
    go_wp2
    exact bodyPost_ret (v := .tuple #[.int .i64 1, .int .i64 6, .int .i64 11, .int .i64 12]) (by simp [results, Tryd.results46, go_sem]) rfl ⟨rfl, rfl⟩
  · go_enter Tryd.func46, Tryd.ntmps46
    go_wp2
    exact bodyPost_ret (v := .tuple #[.int .i64 2, .int .i64 7, .int .i64 8, .int .i64 13]) (by simp [results, Tryd.results46, go_sem]) rfl ⟨rfl, rfl⟩
  · go_enter Tryd.func46, Tryd.ntmps46
    go_wp2
    exact bodyPost_ret (v := .tuple #[.int .i64 3, .int .i64 4, .int .i64 9, .int .i64 14]) (by simp [results, Tryd.results46, go_sem]) rfl ⟨rfl, rfl⟩
end MX
end Go.Proofs.YtecepllidmkmhabDoor
