/-
  What the call rows gives: the table of fields.
-/
import Derived.Test.YtomdplcmbcjkfaaBase
import Derived.Laws.Tables
import Derived.Great.Walk
namespace Go.Proofs.Ytomdplcmbcjkfaa
open Go.RowKit
namespace LW
open Words
/-- The cells of the table of fields. -/
def rowsC : Array Value := #[.int .i64 1,
  .string { data := #[100, 105, 103, 101, 115, 116] },
  .int .i64 20,
  .int .i64 0,
  .int .i64 1,
  .int .i64 0,
  .int .i64 1,
  .int .i64 2,
  .string { data := #[107, 101, 121] },
  .int .i64 8,
  .int .i64 1,
  .int .i64 1,
  .int .i64 1,
  .int .i64 1,
  .int .i64 3,
  .string { data := #[102, 97, 110, 111, 117, 116] },
  .int .i64 21,
  .int .i64 2,
  .int .i64 1,
  .int .i64 2,
  .int .i64 1,
  .int .i64 4,
  .string { data := #[100, 101, 112, 116, 104] },
  .int .i64 22,
  .int .i64 3,
  .int .i64 1,
  .int .i64 3,
  .int .i64 1,
  .int .i64 5,
  .string { data := #[108, 101, 97, 102] },
  .int .i64 1,
  .int .i64 4,
  .int .i64 4,
  .int .i64 4,
  .int .i64 4,
  .int .i64 6,
  .string { data := #[111, 102, 102, 115, 101, 116] },
  .int .i64 23,
  .int .i64 8,
  .int .i64 8,
  .int .i64 8,
  .int .i64 6,
  .int .i64 7,
  .string { data := #[120, 111, 102] },
  .int .i64 24,
  .int .i64 12,
  .int .i64 4,
  .int .i64 12,
  .int .i64 2,
  .int .i64 8,
  .string { data := #[110, 111, 100, 101] },
  .int .i64 25,
  .int .i64 16,
  .int .i64 1,
  .int .i64 14,
  .int .i64 1,
  .int .i64 9,
  .string { data := #[105, 110, 110, 101, 114] },
  .int .i64 26,
  .int .i64 17,
  .int .i64 1,
  .int .i64 15,
  .int .i64 1,
  .int .i64 10,
  .string { data := #[115, 97, 108, 116] },
  .int .i64 27,
  .int .i64 32,
  .int .i64 16,
  .int .i64 16,
  .int .i64 8,
  .int .i64 11,
  .string { data := #[112, 101, 114, 115, 111, 110, 97, 108] },
  .int .i64 28,
  .int .i64 48,
  .int .i64 16,
  .int .i64 24,
  .int .i64 8]
theorem below_setRow {B g : Nat} {w w' : World} {cs : Array Value} (h : Below B w w') (hg : B ≤ g) : Below B w (w'.setRow g cs) :=
  h.trans ⟨rfl, rfl, rfl, by simp, fun k hk => setRow_other _ _ _ _ (by omega)⟩
theorem zero102 : (Try.prog.info? 82).bind (fun i => i.zero.map (fun z => z.cells.size)) = some 77 := by kernel_rfl
set_option maxRecDepth 100000 in
set_option maxHeartbeats 1000000 in
theorem rows (w : World) : Calls Try.prog 43 #[] w fun e w' => e = .returned (.agg rowsC) ∧ Below w.heap.size w w' := by
  go_enter Try.func43, Try.ntmps43
  refine wp_seq_k fun K hK => ?_
  have HK := TW.hide hK
  clear hK
  refine wp_region_lit ?_
  refine Great.wpList_runTo rfl _ rfl (.pointer (some ⟨w.heap.size, 0, none⟩)) (w.alloc (.cells #[.int .i64 0, .string .empty, .int .i64 0, .int .i64 0, .int .i64 0, .int .i64 0, .int .i64 0, .int .i64 0, .string .empty, .int .i64 0, .int .i64 0, .int .i64 0, .int .i64 0, .int .i64 0, .int .i64 0, .string .empty, .int .i64 0, .int .i64 0, .int .i64 0, .int .i64 0, .int .i64 0, .int .i64 0, .string .empty, .int .i64 0, .int .i64 0, .int .i64 0, .int .i64 0, .int .i64 0, .int .i64 0, .string .empty, .int .i64 0, .int .i64 0, .int .i64 0, .int .i64 0, .int .i64 0, .int .i64 0, .string .empty, .int .i64 0, .int .i64 0, .int .i64 0, .int .i64 0, .int .i64 0, .int .i64 0, .string .empty, .int .i64 0, .int .i64 0, .int .i64 0, .int .i64 0, .int .i64 0, .int .i64 0, .string .empty, .int .i64 0, .int .i64 0, .int .i64 0, .int .i64 0, .int .i64 0, .int .i64 0, .string .empty, .int .i64 0, .int .i64 0, .int .i64 0, .int .i64 0, .int .i64 0, .int .i64 0, .string .empty, .int .i64 0, .int .i64 0, .int .i64 0, .int .i64 0, .int .i64 0, .int .i64 0, .string .empty, .int .i64 0, .int .i64 0, .int .i64 0, .int .i64 0, .int .i64 0] 82)) (by kernel_rfl) ?_
  simp only [Act.put, List.setIfInBounds_toArray, List.set_cons_zero]
  refine wpList_nil ?_
  refine HK.out _ _ ?_
  clear HK K
  refine wp_seq ?_
  refine wp_region_lit ?_
  iterate 34 refine wpList_build rfl _ _ rfl (by kernel_rfl) ?_
  refine wpList_store_row rfl 82 _ _ rfl w.heap.size rowsC (by kernel_rfl) (by kernel_rfl) _ _ (heap_alloc_new w _) (by kernel_rfl) (by kernel_rfl) (by kernel_rfl) ?_
  refine wpList_nil ?_
  simp only [Exit.then]
  refine wp_ret ?_
  refine bodyPost_ret (v := .agg rowsC) (results_cell_row (P := Try.prog) Try.results43 _ _ w.heap.size 82 rowsC (0, 0) _ (by kernel_rfl) (setRow_heap _ _ _ _ _ _ (heap_alloc_new w _)) Try.underlying82 rfl (by kernel_rfl)) (by kernel_rfl) ?_
  exact ⟨rfl, below_setRow ((Below.refl _ _).alloc (Nat.le_refl _) _) (Nat.le_refl _)⟩
end LW
end Go.Proofs.Ytomdplcmbcjkfaa
