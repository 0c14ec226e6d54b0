/-
  The walk of XofNames: a stream of no bytes is told by nobody: New tells ErrArg.
-/
import Derived.Test.YtplpplbmajiclabBlk
namespace Go.Proofs.Ytplpplbmajiclab
open Go.RowKit
set_option linter.unusedVariables false
set_option linter.unusedSimpArgs false
namespace XN
open XB
set_option maxRecDepth 100000 in
theorem measures1 (w : World) : Calls Try.prog 17 #[.int .i64 1] w fun e w' => e = .returned (.tuple #[.agg #[.int .i64 64, .int .i64 64, .int .i64 16, .int .i64 8, .int .i64 18, .int .i64 14], .int .i64 0]) ∧ Below w.heap.size w w' := by
  go_enter Try.func17, Try.ntmps17
  go_wp2
  refine bodyPost_ret (v := .tuple #[.agg #[.int .i64 64, .int .i64 64, .int .i64 16, .int .i64 8, .int .i64 18, .int .i64 14], .int .i64 0]) (by simp [results, Try.results17, go_sem]) rfl ⟨rfl, (Below.refl _ _).alloc (Nat.le_refl _) _⟩
set_option maxRecDepth 100000 in
theorem most1 (w : World) : Calls Try.prog 10 #[.int .i64 1] w fun e w' => e = .returned (.tuple #[.int .i64 64, .int .i64 0]) ∧ Below w.heap.size w w' := by
  have H := XB.hide (fun W => measures1 W)
  go_enter Try.func10, Try.ntmps10
  go_wp2_with fail
  refine (H.out _).mono ?_
  rintro e w1 ⟨rfl, hb⟩
  have HB := XB.hide hb
  clear hb
  go_wp2_with fail
  go_ret2
  exact ⟨rfl, HB.out.alloc HB.out.size _⟩
set_option maxRecDepth 100000 in
theorem codeN (w : World) : Calls Try.prog 11 #[.int .i64 1, .int .i64 0] w fun e w' => e = .returned (.tuple #[.int .u32 0, .bool false]) ∧ w = w' := by
  go_enter Try.func11, Try.ntmps11
  go_wp2
  go_ret2
  exact ⟨rfl, rfl⟩
abbrev plan0 : Value := .agg #[.int .i64 0, .int .i64 0, .int .u32 0, .int .u64 0, .slice none 0 0, .slice none 0 0]
set_option maxRecDepth 100000 in
theorem planN (x y : Value) (w : World) : Calls Try.prog 5 #[.int .i64 1, .int .i64 0, .int .i64 0, x, y] w fun e w' => e = .returned (.tuple #[plan0, .int .i64 1]) ∧ Below w.heap.size w w' := by
  have HM := XB.hide (fun W => most1 W)
  have HC := XB.hide (fun W => codeN W)
  go_enter Try.func5, Try.ntmps5
  refine wp_seq_k fun K hK => ?_
  have HK := XB.hide hK
  clear hK
  go_wp2
  refine HK.out _ _ ?_
  have hb0 : Below w.heap.size w (w.alloc (.cells #[.int .i64 0, .int .i64 0, .int .u32 0, .int .u64 0, .slice none 0 0, .slice none 0 0] 32 (0, 0))) := (Below.refl _ _).alloc (Nat.le_refl _) _
  have hg := heap_alloc_new w (.cells #[.int .i64 0, .int .i64 0, .int .u32 0, .int .u64 0, .slice none 0 0, .slice none 0 0] 32 (0, 0))
  generalize w.alloc _ = W at *
  have HB0 := XB.hide hb0
  have HG := XB.hide hg
  clear hb0 hg
  go_wp2_with fail
  refine (HM.out _).mono ?_
  rintro e w1 ⟨rfl, hb⟩
  have HG1 := XB.hide (blk_keep HG.out hb)
  have HB1 := XB.hide (HB0.out.trans (hb.mono HB0.out.size))
  clear hb
  go_wp2_with fail
  refine (HC.out _).mono ?_
  rintro e w2 ⟨rfl, rfl⟩
  obtain ⟨c0, c1, c2, c3, c4, c5, f0, f1, f2, f3, f4, f5⟩ := cells6 HG1.out
  go_wp2_with fail
  refine bodyPost_ret (v := .tuple #[plan0, .int .i64 1]) (results_row_tmp (P := Try.prog) Try.results5 _ _ w.heap.size 32 _ (0, 0) _ _ rfl rfl (blk_set6 HG1.out) Try.underlying32 rfl (by kernel_rfl)) rfl ⟨rfl, ?_⟩
  exact below_set6 HB1.out (Nat.le_refl _)
set_option maxRecDepth 100000 in
theorem newN (w : World) : Calls Try.prog 4 #[.int .i64 1, .int .i64 0, .slice none 0 0, .slice none 0 0, .slice none 0 0] w fun e w' => e = .returned (.tuple #[.pointer none, .int .i64 1]) ∧ Below w.heap.size w w' := by
  have HM := XB.hide (fun x y W => planN x y W)
  go_enter Try.func4, Try.ntmps4
  go_wp2_with fail
  refine (HM.out _ _ _).mono ?_
  rintro e w1 ⟨rfl, hb⟩
  have HB := XB.hide hb
  clear hb
  go_wp2_with fail
  go_ret2
  exact ⟨rfl, (HB.out.alloc HB.out.size _)⟩
set_option maxRecDepth 100000 in
theorem names (w : World) : Calls Try.prog 3 #[] w fun e w' => e = .returned (.bool true) ∧ Below w.heap.size w w' := by
  have HM := XB.hide (fun W => newN W)
  go_enter Try.func3, Try.ntmps3
  go_wp2_with fail
  refine (HM.out _).mono ?_
  rintro e w1 ⟨rfl, hb⟩
  have HB := XB.hide hb
  clear hb
  go_wp2_with fail
  go_ret
  exact ⟨rfl, HB.out⟩
end XN
end Go.Proofs.Ytplpplbmajiclab
