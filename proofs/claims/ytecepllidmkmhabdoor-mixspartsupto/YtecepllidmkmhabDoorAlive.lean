/-
  What the laws' call alive gives.
-/
import Derived.Test.YtecepllidmkmhabDoorStructs
import Derived.Test.YtecepllidmkmhabDoorRinfo
import Derived.Test.YtecepllidmkmhabDoorTabs
namespace Go.Proofs.YtecepllidmkmhabDoor
open Go.RowKit
set_option linter.unusedVariables false
set_option linter.unusedSimpArgs false
namespace MX
open Turn
attribute [local go_sem ↓] Go.wp_at_zero Go.wp_at_succ
set_option maxRecDepth 100000 in
theorem alive (w : World) (ti : Tab w 0 .u32 ivL) : Calls Tryd.prog 12 #[] w fun e w' => e = .returned (.bool true) ∧ Below w.heap.size w w' := by
  have hiv := iv w ti
  have HIV := TW.hide hiv
  have i8 := TW.hide (info8 ivL rfl)
  have o8 := TW.hide (size8 (List.replicate 8 0) ivL rfl rfl)
  clear hiv ti
  go_enter Tryd.func12, Tryd.ntmps12
  refine wp_seq_k fun K hK => ?_
  have HK := TW.hide hK
  clear hK
  go_wp2
  refine HK.out _ _ ?_
  clear HK K
  refine wp_seq_k fun KK hK => ?_
  have HK := TW.hide hK
  clear hK
  go_wp2_with fail
  refine (HIV.out).mono ?_
  rintro e w1 ⟨rfl, hb1⟩
  have MB : Hid (Below w.heap.size w w1) := hb1
  have hle := hb1.size
  clear hb1
  go_wp2_with (first | (refine wpList_store_row (by rfl) 23 _ _ (by rfl) w1.heap.size (K .u32 ivL) (by rfl) (by rfl) 23 _ (heap_new w1 _) i8.out o8.out (K_one _ _) ?_))
  have nO := setRow_heap _ _ _ (K .u32 ivL) _ _ (heap_new w1 (.cells #[.int .u32 0, .int .u32 0, .int .u32 0, .int .u32 0, .int .u32 0, .int .u32 0, .int .u32 0, .int .u32 0] 23))
  have bO := below_setRow (cs := (K .u32 ivL)) ((Below.refl w1.heap.size w1).alloc (Nat.le_refl _) (.cells #[.int .u32 0, .int .u32 0, .int .u32 0, .int .u32 0, .int .u32 0, .int .u32 0, .int .u32 0, .int .u32 0] 23)) (g := w1.heap.size) (Nat.le_refl _)
  generalize (w1.alloc (.cells #[.int .u32 0, .int .u32 0, .int .u32 0, .int .u32 0, .int .u32 0, .int .u32 0, .int .u32 0, .int .u32 0] 23)).setRow w1.heap.size (K .u32 ivL) = X1 at nO bO ⊢
  refine HK.out _ _ ?_
  clear HK KK
  have c0 : X1.cell? ⟨w1.heap.size, 0, none⟩ = some (.int .u32 1779033703) := blk_cellK nO (i := 0) (by decide)
  have c7 : X1.cell? ⟨w1.heap.size, 7, none⟩ = some (.int .u32 1541459225) := blk_cellK nO (i := 7) (by decide)
  have FB := TW.hide (below_row MB.out bO hle)
  clear nO bO MB
  generalize w1.heap.size = g at *
  go_wp2
  go_ret
  exact ⟨rfl, FB.out⟩
end MX
end Go.Proofs.YtecepllidmkmhabDoor
