/-
  What the calls awake (the laws) and MixbTables give.
-/
import Derived.Test.YtkilackhomhpgabDoorTabs
import Derived.Test.YtkilackhomhpgabDoorOrder
namespace Go.Proofs.YtkilackhomhpgabDoor
open Go.RowKit
set_option linter.unusedVariables false
set_option linter.unusedSimpArgs false
namespace MX
open Turn
attribute [local go_sem ↓] Go.wp_at_zero Go.wp_at_succ
set_option maxRecDepth 100000 in
set_option maxHeartbeats 2000000 in
theorem awake (w : World) (hi : Tab w 0 .u64 ivL) (ht : Tab w 1 .u8 ordL) : Calls Tryd.prog 10 #[] w fun e w' => e = .returned (.bool true) ∧ Below w.heap.size w w' := by
  have h9 := iv w hi
  have h11 := fun X (h : Tab X 1 .u8 ordL) => sigma 1 X h
  have HI := TW.hide h9
  have HS := TW.hide h11
  have HT := TW.hide ht
  clear h9 h11 hi ht
  go_enter Tryd.func10, Tryd.ntmps10
  refine wp_seq_k fun K hK => ?_
  have HK := TW.hide hK
  clear hK
  go_wp2
  refine HK.out _ _ ?_
  clear HK K
  refine wp_seq_k fun KK hK => ?_
  have HK := TW.hide hK
  clear hK
  go_wp2_with fail
  refine (HI.out).mono ?_
  rintro e w1 ⟨rfl, hb1⟩
  have B1 := TW.hide hb1
  clear hb1
  go_wp2_with (first | (refine wpList_store_row (by rfl) 23 _ _ (by rfl) w1.heap.size (K .u64 ivL) (by rfl) (by rfl) 23 _ (heap_new w1 _) (by kernel_rfl) (by kernel_rfl) (K_one _ _) ?_))
  have n1 := setRow_heap _ _ _ (K .u64 ivL) _ _ (heap_new w1 (.cells #[.int .u64 0, .int .u64 0, .int .u64 0, .int .u64 0, .int .u64 0, .int .u64 0, .int .u64 0, .int .u64 0] 23))
  have bx1 := below_setRow (cs := (K .u64 ivL)) ((Below.refl w1.heap.size w1).alloc (Nat.le_refl _) (.cells #[.int .u64 0, .int .u64 0, .int .u64 0, .int .u64 0, .int .u64 0, .int .u64 0, .int .u64 0, .int .u64 0] 23)) (g := w1.heap.size) (Nat.le_refl _)
  generalize (w1.alloc (.cells #[.int .u64 0, .int .u64 0, .int .u64 0, .int .u64 0, .int .u64 0, .int .u64 0, .int .u64 0, .int .u64 0] 23)).setRow w1.heap.size (K .u64 ivL) = X1 at n1 bx1 ⊢
  refine HK.out _ _ ?_
  clear HK KK
  have BX1 : Hid (Below w.heap.size w X1) := below_row B1.out bx1 B1.out.size
  generalize hg1 : w1.heap.size = g1 at *
  have N1 := TW.hide n1
  clear n1 bx1 hg1 B1
  refine wp_seq_k fun KK hK => ?_
  have HK := TW.hide hK
  clear hK
  go_wp2_with fail
  refine (HS.out _ (HT.out.below BX1.out)).mono ?_
  rintro e w2 ⟨rfl, hb2⟩
  have N1' := TW.hide (blk_keep N1.out hb2)
  have B2 : Hid (Below w.heap.size w w2) := below_row BX1.out hb2 BX1.out.size
  have hor : ord ((1 : Int) % 10).toNat = ord 1 := rfl
  rw [hor]
  clear hb2 N1 BX1 hor
  go_wp2_with (first | (refine wpList_store_row (by rfl) 43 _ _ (by rfl) w2.heap.size (K .i64 (ord 1)) (by rfl) (by rfl) 43 _ (heap_new w2 _) (by kernel_rfl) (by kernel_rfl) (K_one _ _) ?_))
  have n2 := setRow_heap _ _ _ (K .i64 (ord 1)) _ _ (heap_new w2 (.cells #[.int .i64 0, .int .i64 0, .int .i64 0, .int .i64 0, .int .i64 0, .int .i64 0, .int .i64 0, .int .i64 0, .int .i64 0, .int .i64 0, .int .i64 0, .int .i64 0, .int .i64 0, .int .i64 0, .int .i64 0, .int .i64 0] 43))
  have bx2 := below_setRow (cs := (K .i64 (ord 1))) ((Below.refl w2.heap.size w2).alloc (Nat.le_refl _) (.cells #[.int .i64 0, .int .i64 0, .int .i64 0, .int .i64 0, .int .i64 0, .int .i64 0, .int .i64 0, .int .i64 0, .int .i64 0, .int .i64 0, .int .i64 0, .int .i64 0, .int .i64 0, .int .i64 0, .int .i64 0, .int .i64 0] 43)) (g := w2.heap.size) (Nat.le_refl _)
  generalize (w2.alloc (.cells #[.int .i64 0, .int .i64 0, .int .i64 0, .int .i64 0, .int .i64 0, .int .i64 0, .int .i64 0, .int .i64 0, .int .i64 0, .int .i64 0, .int .i64 0, .int .i64 0, .int .i64 0, .int .i64 0, .int .i64 0, .int .i64 0] 43)).setRow w2.heap.size (K .i64 (ord 1)) = X2 at n2 bx2 ⊢
  refine HK.out _ _ ?_
  clear HK KK
  have c0 := blk_cellK (blk_keep N1'.out bx2) (i := 0) (by decide)
  have c7 := blk_cellK (blk_keep N1'.out bx2) (i := 7) (by decide)
  have s0 := blk_cellK n2 (i := 0) (by decide)
  have s15 := blk_cellK n2 (i := 15) (by decide)
  have e0 : ivL.getD 0 0 = 7640891576956012808 := rfl
  have e7 : ivL.getD 7 0 = 6620516959819538809 := rfl
  have o0 : (ord 1).getD 0 0 = 14 := by decide
  have o15 : (ord 1).getD 15 0 = 3 := by decide
  rw [e0] at c0
  rw [e7] at c7
  rw [o0] at s0
  rw [o15] at s15
  have BX2 : Hid (Below w.heap.size w X2) := below_row B2.out bx2 B2.out.size
  clear n2 bx2 N1' B2 e0 e7 o0 o15
  go_wp2
  go_ret
  exact ⟨rfl, BX2.out⟩
end MX
end Go.Proofs.YtkilackhomhpgabDoor
