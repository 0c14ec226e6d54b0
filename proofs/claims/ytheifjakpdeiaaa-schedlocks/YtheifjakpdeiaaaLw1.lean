/-
  A small system, and its run.
-/
import Derived.Test.YtheifjakpdeiaaaArgs13
import Derived.Test.YtheifjakpdeiaaaSysV
namespace Go.Proofs.Ytheifjakpdeiaaa
open Go.RowKit
set_option linter.unusedVariables false
set_option linter.unusedSimpArgs false
namespace LW
open Mc
/-- The small system of the laws. -/
def smS : Syst := ⟨[[⟨14, 1, 0, 0⟩, ⟨1, 0, 7, 0⟩, ⟨5, 0, 0, 0⟩, ⟨7, 0, 0, 0⟩], [⟨6, 0, 1, 2⟩, ⟨4, 0, 0, 0⟩]], [1], 0, 0, 0⟩
set_option maxRecDepth 100000 in
theorem smS_play : (Mc.play smS []).1 = 1 ∧ (Mc.play smS []).2.1 = 0 ∧ (Mc.play smS []).2.2.evs.length = 7 ∧ (Mc.play smS []).2.2.rns.length = 2 := by decide +kernel
theorem smS_ok : Ok smS := by
  refine ⟨by decide, by decide, by decide, by decide, by decide, by decide, fun i hi => ?_, fun p hp => ?_, fun p hp j hj => ?_⟩
  · obtain rfl : i = 0 := by simp [smS] at hi; omega
    decide
  · obtain rfl | rfl : p = 0 ∨ p = 1 := by simp [smS] at hp; omega
    · decide
    · decide
  · obtain rfl | rfl : p = 0 ∨ p = 1 := by simp [smS] at hp; omega
    · obtain rfl | rfl | rfl | rfl : j = 0 ∨ j = 1 ∨ j = 2 ∨ j = 3 := by simp [smS] at hj; omega
      all_goals (unfold rightM fitM; decide)
    · obtain rfl | rfl : j = 0 ∨ j = 1 := by simp [smS] at hj; omega
      all_goals (unfold rightM fitM; decide)
set_option maxRecDepth 100000 in
set_option maxHeartbeats 4000000 in
theorem rsmall (w : World) : Calls Try.prog 18 #[] w fun e w' => ∃ pa pc ra rc, e = .returned (.agg (syC smS pa pc ra rc)) ∧ SyI w' smS pa ra ∧ Below w.heap.size w w' := by
  go_enter Try.func18, Try.ntmps18
  go_wp2
  have hs : ∀ (W : World) (ob : Obj), (W.alloc ob).heap.size = W.heap.size + 1 := fun W ob => by simp
  have N0 := blk_alloc (o' := .cells #[.int .i64 1] 3) (blk_alloc (o' := .cells #[.slice (some ⟨w.heap.size + 1, 0, none⟩) 4 4, .slice (some ⟨w.heap.size + 1 + 1, 0, none⟩) 2 2] 46) (blk_alloc (o' := .cells #[.int .i64 6, .int .i64 0, .int .i64 1, .int .i64 2, .int .i64 4, .int .i64 0, .int .i64 0, .int .i64 0] 48) (blk_alloc (o' := .cells #[.int .i64 14, .int .i64 1, .int .i64 0, .int .i64 0, .int .i64 1, .int .i64 0, .int .i64 7, .int .i64 0, .int .i64 5, .int .i64 0, .int .i64 0, .int .i64 0, .int .i64 7, .int .i64 0, .int .i64 0, .int .i64 0] 48) (heap_alloc_new w (.cells #[.slice (some ⟨w.heap.size + 1 + 1 + 1, 0, none⟩) 2 2, .slice (some ⟨w.heap.size + 1 + 1 + 1 + 1, 0, none⟩) 1 1, .int .i64 0, .int .i64 0, .int .i64 0] 25)))))
  have N1 := blk_alloc (o' := .cells #[.int .i64 1] 3) (blk_alloc (o' := .cells #[.slice (some ⟨w.heap.size + 1, 0, none⟩) 4 4, .slice (some ⟨w.heap.size + 1 + 1, 0, none⟩) 2 2] 46) (blk_alloc (o' := .cells #[.int .i64 6, .int .i64 0, .int .i64 1, .int .i64 2, .int .i64 4, .int .i64 0, .int .i64 0, .int .i64 0] 48) (heap_alloc_new (w.alloc (.cells #[.slice (some ⟨w.heap.size + 1 + 1 + 1, 0, none⟩) 2 2, .slice (some ⟨w.heap.size + 1 + 1 + 1 + 1, 0, none⟩) 1 1, .int .i64 0, .int .i64 0, .int .i64 0] 25)) (.cells #[.int .i64 14, .int .i64 1, .int .i64 0, .int .i64 0, .int .i64 1, .int .i64 0, .int .i64 7, .int .i64 0, .int .i64 5, .int .i64 0, .int .i64 0, .int .i64 0, .int .i64 7, .int .i64 0, .int .i64 0, .int .i64 0] 48))))
  have N2 := blk_alloc (o' := .cells #[.int .i64 1] 3) (blk_alloc (o' := .cells #[.slice (some ⟨w.heap.size + 1, 0, none⟩) 4 4, .slice (some ⟨w.heap.size + 1 + 1, 0, none⟩) 2 2] 46) (heap_alloc_new ((w.alloc (.cells #[.slice (some ⟨w.heap.size + 1 + 1 + 1, 0, none⟩) 2 2, .slice (some ⟨w.heap.size + 1 + 1 + 1 + 1, 0, none⟩) 1 1, .int .i64 0, .int .i64 0, .int .i64 0] 25)).alloc (.cells #[.int .i64 14, .int .i64 1, .int .i64 0, .int .i64 0, .int .i64 1, .int .i64 0, .int .i64 7, .int .i64 0, .int .i64 5, .int .i64 0, .int .i64 0, .int .i64 0, .int .i64 7, .int .i64 0, .int .i64 0, .int .i64 0] 48)) (.cells #[.int .i64 6, .int .i64 0, .int .i64 1, .int .i64 2, .int .i64 4, .int .i64 0, .int .i64 0, .int .i64 0] 48)))
  have N3 := blk_alloc (o' := .cells #[.int .i64 1] 3) (heap_alloc_new (((w.alloc (.cells #[.slice (some ⟨w.heap.size + 1 + 1 + 1, 0, none⟩) 2 2, .slice (some ⟨w.heap.size + 1 + 1 + 1 + 1, 0, none⟩) 1 1, .int .i64 0, .int .i64 0, .int .i64 0] 25)).alloc (.cells #[.int .i64 14, .int .i64 1, .int .i64 0, .int .i64 0, .int .i64 1, .int .i64 0, .int .i64 7, .int .i64 0, .int .i64 5, .int .i64 0, .int .i64 0, .int .i64 0, .int .i64 7, .int .i64 0, .int .i64 0, .int .i64 0] 48)).alloc (.cells #[.int .i64 6, .int .i64 0, .int .i64 1, .int .i64 2, .int .i64 4, .int .i64 0, .int .i64 0, .int .i64 0] 48)) (.cells #[.slice (some ⟨w.heap.size + 1, 0, none⟩) 4 4, .slice (some ⟨w.heap.size + 1 + 1, 0, none⟩) 2 2] 46))
  have N4 := heap_alloc_new ((((w.alloc (.cells #[.slice (some ⟨w.heap.size + 1 + 1 + 1, 0, none⟩) 2 2, .slice (some ⟨w.heap.size + 1 + 1 + 1 + 1, 0, none⟩) 1 1, .int .i64 0, .int .i64 0, .int .i64 0] 25)).alloc (.cells #[.int .i64 14, .int .i64 1, .int .i64 0, .int .i64 0, .int .i64 1, .int .i64 0, .int .i64 7, .int .i64 0, .int .i64 5, .int .i64 0, .int .i64 0, .int .i64 0, .int .i64 7, .int .i64 0, .int .i64 0, .int .i64 0] 48)).alloc (.cells #[.int .i64 6, .int .i64 0, .int .i64 1, .int .i64 2, .int .i64 4, .int .i64 0, .int .i64 0, .int .i64 0] 48)).alloc (.cells #[.slice (some ⟨w.heap.size + 1, 0, none⟩) 4 4, .slice (some ⟨w.heap.size + 1 + 1, 0, none⟩) 2 2] 46)) (.cells #[.int .i64 1] 3)
  have hB : Below w.heap.size w (((((w.alloc (.cells #[.slice (some ⟨w.heap.size + 1 + 1 + 1, 0, none⟩) 2 2, .slice (some ⟨w.heap.size + 1 + 1 + 1 + 1, 0, none⟩) 1 1, .int .i64 0, .int .i64 0, .int .i64 0] 25)).alloc (.cells #[.int .i64 14, .int .i64 1, .int .i64 0, .int .i64 0, .int .i64 1, .int .i64 0, .int .i64 7, .int .i64 0, .int .i64 5, .int .i64 0, .int .i64 0, .int .i64 0, .int .i64 7, .int .i64 0, .int .i64 0, .int .i64 0] 48)).alloc (.cells #[.int .i64 6, .int .i64 0, .int .i64 1, .int .i64 2, .int .i64 4, .int .i64 0, .int .i64 0, .int .i64 0] 48)).alloc (.cells #[.slice (some ⟨w.heap.size + 1, 0, none⟩) 4 4, .slice (some ⟨w.heap.size + 1 + 1, 0, none⟩) 2 2] 46)).alloc (.cells #[.int .i64 1] 3)) := (((((Below.refl _ _).alloc (Nat.le_refl _) _).alloc (by simp only [hs]; omega) _).alloc (by simp only [hs]; omega) _).alloc (by simp only [hs]; omega) _).alloc (by simp only [hs]; omega) _
  simp only [hs] at N1 N2 N3 N4
  generalize World.alloc _ _ = X at *
  generalize w.heap.size = n at *
  refine bodyPost_ret (v := .agg #[.slice (some ⟨n + 1 + 1 + 1, 0, none⟩) 2 2, .slice (some ⟨n + 1 + 1 + 1 + 1, 0, none⟩) 1 1, .int .i64 0, .int .i64 0, .int .i64 0]) (results_cell_row (P := Try.prog) Try.results18 _ _ n 25 _ (0, 0) _ rfl N0 Try.underlying25 rfl (by kernel_rfl)) rfl ?_
  refine ⟨some ⟨n + 1 + 1 + 1, 0, none⟩, 2, some ⟨n + 1 + 1 + 1 + 1, 0, none⟩, 1, rfl, ⟨⟨.inr ⟨_, 0, rfl, fun p hp => ?_⟩, .inr ⟨_, 0, rfl, fun j hj => ?_⟩⟩, by decide, by decide, fun p => ?_, fun p j => ?_⟩, hB⟩
  · obtain rfl | rfl : p = 0 ∨ p = 1 := by simp [smS] at hp; omega
    · refine ⟨some ⟨n + 1, 0, none⟩, 4, blk_cell N3 rfl, .inr ⟨_, 0, rfl, fun j hj => ?_⟩⟩
      obtain rfl | rfl | rfl | rfl : j = 0 ∨ j = 1 ∨ j = 2 ∨ j = 3 := by simp [smS] at hj; omega
      all_goals exact ⟨blk_cell N1 rfl, blk_cell N1 rfl, blk_cell N1 rfl, blk_cell N1 rfl⟩
    · refine ⟨some ⟨n + 1 + 1, 0, none⟩, 2, blk_cell N3 rfl, .inr ⟨_, 0, rfl, fun j hj => ?_⟩⟩
      obtain rfl | rfl : j = 0 ∨ j = 1 := by simp [smS] at hj; omega
      all_goals exact ⟨blk_cell N2 rfl, blk_cell N2 rfl, blk_cell N2 rfl, blk_cell N2 rfl⟩
  · obtain rfl : j = 0 := by simp [smS] at hj; omega
    exact blk_cell N4 rfl
  · match p with
    | 0 => decide
    | 1 => decide
    | p + 2 => exact Nat.zero_le _
  · match p, j with
    | 0, 0 => exact (by unfold iIns i64; decide)
    | 0, 1 => exact (by unfold iIns i64; decide)
    | 0, 2 => exact (by unfold iIns i64; decide)
    | 0, 3 => exact (by unfold iIns i64; decide)
    | 0, j + 4 => exact iIns_0
    | 1, 0 => exact (by unfold iIns i64; decide)
    | 1, 1 => exact (by unfold iIns i64; decide)
    | 1, j + 2 => exact iIns_0
    | p + 2, j => exact (by cases j <;> exact iIns_0)
end LW
end Go.Proofs.Ytheifjakpdeiaaa
