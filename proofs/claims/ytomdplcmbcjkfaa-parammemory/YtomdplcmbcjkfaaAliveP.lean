/-
  What the laws' call alive gives.
-/
import Derived.Test.YtomdplcmbcjkfaaEncU
namespace Go.Proofs.Ytomdplcmbcjkfaa
open Go.RowKit
set_option linter.unusedVariables false
set_option linter.unusedSimpArgs false
namespace LW
open Words
attribute [local go_sem ↓] Go.wp_at_zero Go.wp_at_succ
theorem alive0 : (enL 1 (⟨64, 0, 1, 1, 0, 0, 0, 0, 0⟩ : Pm) [] []).length = 64 ∧ (enL 1 (⟨64, 0, 1, 1, 0, 0, 0, 0, 0⟩ : Pm) [] []).getD 0 0 = 64 ∧ (enL 1 (⟨64, 0, 1, 1, 0, 0, 0, 0, 0⟩ : Pm) [] []).getD 2 0 = 1 ∧ (enL 1 (⟨64, 0, 1, 1, 0, 0, 0, 0, 0⟩ : Pm) [] []).getD 3 0 = 1 ∧ Pm.ck 1 (⟨64, 0, 1, 1, 0, 0, 0, 0, 0⟩ : Pm) 0 0 = 0 := by
  refine ⟨by decide +kernel, by decide +kernel, by decide +kernel, by decide +kernel, by decide +kernel⟩
set_option maxRecDepth 100000 in
set_option maxHeartbeats 4000000 in
theorem alive (w : World) : Calls Try.prog 4 #[] w fun e w' => e = .returned (.bool true) ∧ Below w.heap.size w w' := by
  obtain ⟨h64, g0, g2, g3, hck⟩ := alive0
  have hp : ((⟨64, 0, 1, 1, 0, 0, 0, 0, 0⟩ : Pm)).Ok := ⟨by decide, by decide, by decide, by decide, by decide, by decide⟩
  have H23 : Hid (∀ W, Calls Try.prog 7 #[.int .i64 1, .agg #[.int .i64 64, .int .i64 0, .int .i64 1, .int .i64 1, .int .u32 0, .int .u64 0, .int .u32 0, .int .i64 0, .int .i64 0, (.slice none 0 0), (.slice none 0 0)]] W fun e w' => ∃ g, e = .returned (.tuple #[.slice (some ⟨g, 0, none⟩) 64 64, .int .i64 0]) ∧ w'.cell? ⟨g, 0, none⟩ = some (.int .u8 64) ∧ w'.cell? ⟨g, 2, none⟩ = some (.int .u8 1) ∧ w'.cell? ⟨g, 3, none⟩ = some (.int .u8 1) ∧ Below W.heap.size W w') := fun W => by
    refine (encOk 1 (⟨64, 0, 1, 1, 0, 0, 0, 0, 0⟩ : Pm) hp none none 0 0 [] [] W hck (nil_Pa W).toPb (nil_Pa W).toPb).mono ?_
    rintro e w' ⟨g, rfl, hg, hh, hb⟩
    rw [h64]
    refine ⟨g, rfl, ?_, ?_, ?_, hb⟩
    · exact blk_cell hh (by rw [List.getElem?_toArray, vs_get _ _ (by omega), g0])
    · exact blk_cell hh (by rw [List.getElem?_toArray, vs_get _ _ (by omega), g2])
    · exact blk_cell hh (by rw [List.getElem?_toArray, vs_get _ _ (by omega), g3])
  clear h64 g0 g2 g3 hck
  go_enter Try.func4, Try.ntmps4
  go_wp2_with fail
  refine (H23.out _).mono ?_
  rintro e w1 ⟨g, rfl, c0, c2, c3, hb⟩
  have HB := TW.hide hb
  clear hb
  go_wp2
  go_ret
  exact ⟨rfl, HB.out⟩
end LW
end Go.Proofs.Ytomdplcmbcjkfaa
