/-
  What the calls Params of the document give, and of both in one word.
-/
import Derived.Test.YthbakhgfnfdahaaParamsX
import Derived.Test.YthbakhgfnfdahaaRCheck
namespace Go.Proofs.Ythbakhgfnfdahaa
open Go.RowKit
set_option linter.unusedVariables false
set_option linter.unusedSimpArgs false
namespace LW
open Words
attribute [local go_sem ↓] Go.wp_at_zero Go.wp_at_succ
set_option maxHeartbeats 1000000 in
theorem rpNone (k d y at_ : Int) (w : World) (HC : Hid (∀ W : World, Calls Try.prog 16 #[.int .i64 k] W fun e w' => e = .returned (.int .i64 0) ∧ W = w')) :
    Calls Try.prog 18 #[.int .i64 k, .int .i64 d, .int .i64 y, .int .i64 at_] w fun e w' => e = .returned (.tuple #[.agg #[.int .i64 0, .int .i64 0, .int .i64 0, .int .i64 0, .int .u32 0, .int .u64 0, .int .u32 0, .int .i64 0, .int .i64 0, .slice none 0 0, .slice none 0 0], .int .i64 1]) ∧ Below w.heap.size w w' := by
  go_enter Try.func18, Try.ntmps18
  refine wp_seq_k fun K hK => ?_
  have HK := TW.hide hK
  clear hK
  go_wp2
  refine HK.out _ _ ?_
  clear HK K
  have n0 := heap_alloc_new w (.cells #[.int .i64 0, .int .i64 0, .int .i64 0, .int .i64 0, .int .u32 0, .int .u64 0, .int .u32 0, .int .i64 0, .int .i64 0, .slice none 0 0, .slice none 0 0] 47)
  have hb := (Below.refl w.heap.size w).alloc (Nat.le_refl _) (.cells #[.int .i64 0, .int .i64 0, .int .i64 0, .int .i64 0, .int .u32 0, .int .u64 0, .int .u32 0, .int .i64 0, .int .i64 0, .slice none 0 0, .slice none 0 0] 47)
  generalize w.alloc _ = W at n0 hb ⊢
  have hE := blk_lt n0
  have HN := TW.hide n0
  have HB := TW.hide hb
  clear n0 hb
  go_wp2_with fail
  refine (HC.out _).mono ?_
  rintro e w1 ⟨rfl, rfl⟩
  go_wp2_with (first | (refine wpList_store_row (by rfl) 47 _ _ (by rfl) w.heap.size #[.int .i64 0, .int .i64 0, .int .i64 0, .int .i64 0, .int .u32 0, .int .u64 0, .int .u32 0, .int .i64 0, .int .i64 0, .slice none 0 0, .slice none 0 0] (by rfl) (by rfl) 47 _ HN.out (by kernel_rfl) (by rfl) (by simp [Value.oneCell']) ?_))
  have hN9 := setRow_heap _ _ _ #[.int .i64 0, .int .i64 0, .int .i64 0, .int .i64 0, .int .u32 0, .int .u64 0, .int .u32 0, .int .i64 0, .int .i64 0, .slice none 0 0, .slice none 0 0] _ _ HN.out
  have hB9 := below_setRow (cs := #[.int .i64 0, .int .i64 0, .int .i64 0, .int .i64 0, .int .u32 0, .int .u64 0, .int .u32 0, .int .i64 0, .int .i64 0, .slice none 0 0, .slice none 0 0]) HB.out (g := w.heap.size) (by omega)
  generalize W.setRow _ _ = X9 at hN9 hB9 ⊢
  refine bodyPost_ret (v := .tuple #[.agg #[.int .i64 0, .int .i64 0, .int .i64 0, .int .i64 0, .int .u32 0, .int .u64 0, .int .u32 0, .int .i64 0, .int .i64 0, .slice none 0 0, .slice none 0 0], .int .i64 1]) (results_row_tmp (P := Try.prog) Try.results18 _ _ w.heap.size 47 _ (0, 0) _ _ rfl rfl hN9 Try.underlying47 rfl (by kernel_rfl)) rfl ⟨rfl, ?_⟩
  exact hB9
set_option maxHeartbeats 1000000 in
theorem rpLow (k d y at_ : Int) (n : Nat) (w : World) (HC : Hid (∀ W : World, Calls Try.prog 16 #[.int .i64 k] W fun e w' => e = .returned (.int .i64 n) ∧ W = w')) (hn : ((n : Int) == 0) = false) (ha : decide (at_ < 0) = true) :
    Calls Try.prog 18 #[.int .i64 k, .int .i64 d, .int .i64 y, .int .i64 at_] w fun e w' => e = .returned (.tuple #[.agg #[.int .i64 0, .int .i64 0, .int .i64 0, .int .i64 0, .int .u32 0, .int .u64 0, .int .u32 0, .int .i64 0, .int .i64 0, .slice none 0 0, .slice none 0 0], .int .i64 1]) ∧ Below w.heap.size w w' := by
  go_enter Try.func18, Try.ntmps18
  refine wp_seq_k fun K hK => ?_
  have HK := TW.hide hK
  clear hK
  go_wp2
  refine HK.out _ _ ?_
  clear HK K
  have n0 := heap_alloc_new w (.cells #[.int .i64 0, .int .i64 0, .int .i64 0, .int .i64 0, .int .u32 0, .int .u64 0, .int .u32 0, .int .i64 0, .int .i64 0, .slice none 0 0, .slice none 0 0] 47)
  have hb := (Below.refl w.heap.size w).alloc (Nat.le_refl _) (.cells #[.int .i64 0, .int .i64 0, .int .i64 0, .int .i64 0, .int .u32 0, .int .u64 0, .int .u32 0, .int .i64 0, .int .i64 0, .slice none 0 0, .slice none 0 0] 47)
  generalize w.alloc _ = W at n0 hb ⊢
  have hE := blk_lt n0
  have HN := TW.hide n0
  have HB := TW.hide hb
  clear n0 hb
  go_wp2_with fail
  refine (HC.out _).mono ?_
  rintro e w1 ⟨rfl, rfl⟩
  go_wp2_with (first | (refine wpList_store_row (by rfl) 47 _ _ (by rfl) w.heap.size #[.int .i64 0, .int .i64 0, .int .i64 0, .int .i64 0, .int .u32 0, .int .u64 0, .int .u32 0, .int .i64 0, .int .i64 0, .slice none 0 0, .slice none 0 0] (by rfl) (by rfl) 47 _ HN.out (by kernel_rfl) (by rfl) (by simp [Value.oneCell']) ?_))
  have hN9 := setRow_heap _ _ _ #[.int .i64 0, .int .i64 0, .int .i64 0, .int .i64 0, .int .u32 0, .int .u64 0, .int .u32 0, .int .i64 0, .int .i64 0, .slice none 0 0, .slice none 0 0] _ _ HN.out
  have hB9 := below_setRow (cs := #[.int .i64 0, .int .i64 0, .int .i64 0, .int .i64 0, .int .u32 0, .int .u64 0, .int .u32 0, .int .i64 0, .int .i64 0, .slice none 0 0, .slice none 0 0]) HB.out (g := w.heap.size) (by omega)
  generalize W.setRow _ _ = X9 at hN9 hB9 ⊢
  refine bodyPost_ret (v := .tuple #[.agg #[.int .i64 0, .int .i64 0, .int .i64 0, .int .i64 0, .int .u32 0, .int .u64 0, .int .u32 0, .int .i64 0, .int .i64 0, .slice none 0 0, .slice none 0 0], .int .i64 1]) (results_row_tmp (P := Try.prog) Try.results18 _ _ w.heap.size 47 _ (0, 0) _ _ rfl rfl hN9 Try.underlying47 rfl (by kernel_rfl)) rfl ⟨rfl, ?_⟩
  exact hB9
set_option maxHeartbeats 1000000 in
theorem rpHigh (k d y at_ : Int) (n : Nat) (w : World) (HC : Hid (∀ W : World, Calls Try.prog 16 #[.int .i64 k] W fun e w' => e = .returned (.int .i64 n) ∧ W = w')) (hn : ((n : Int) == 0) = false) (ha : decide (at_ < 0) = false) (hb : decide ((n : Int) < at_) = true) :
    Calls Try.prog 18 #[.int .i64 k, .int .i64 d, .int .i64 y, .int .i64 at_] w fun e w' => e = .returned (.tuple #[.agg #[.int .i64 0, .int .i64 0, .int .i64 0, .int .i64 0, .int .u32 0, .int .u64 0, .int .u32 0, .int .i64 0, .int .i64 0, .slice none 0 0, .slice none 0 0], .int .i64 1]) ∧ Below w.heap.size w w' := by
  have hbb := hb
  clear hb
  go_enter Try.func18, Try.ntmps18
  refine wp_seq_k fun K hK => ?_
  have HK := TW.hide hK
  clear hK
  go_wp2
  refine HK.out _ _ ?_
  clear HK K
  have n0 := heap_alloc_new w (.cells #[.int .i64 0, .int .i64 0, .int .i64 0, .int .i64 0, .int .u32 0, .int .u64 0, .int .u32 0, .int .i64 0, .int .i64 0, .slice none 0 0, .slice none 0 0] 47)
  have hb := (Below.refl w.heap.size w).alloc (Nat.le_refl _) (.cells #[.int .i64 0, .int .i64 0, .int .i64 0, .int .i64 0, .int .u32 0, .int .u64 0, .int .u32 0, .int .i64 0, .int .i64 0, .slice none 0 0, .slice none 0 0] 47)
  generalize w.alloc _ = W at n0 hb ⊢
  have hE := blk_lt n0
  have HN := TW.hide n0
  have HB := TW.hide hb
  clear n0 hb
  go_wp2_with fail
  refine (HC.out _).mono ?_
  rintro e w1 ⟨rfl, rfl⟩
  go_wp2_with fail
  refine (HC.out _).mono ?_
  rintro e w1 ⟨rfl, rfl⟩
  go_wp2_with (first | (refine wpList_store_row (by rfl) 47 _ _ (by rfl) w.heap.size #[.int .i64 0, .int .i64 0, .int .i64 0, .int .i64 0, .int .u32 0, .int .u64 0, .int .u32 0, .int .i64 0, .int .i64 0, .slice none 0 0, .slice none 0 0] (by rfl) (by rfl) 47 _ HN.out (by kernel_rfl) (by rfl) (by simp [Value.oneCell']) ?_))
  have hN9 := setRow_heap _ _ _ #[.int .i64 0, .int .i64 0, .int .i64 0, .int .i64 0, .int .u32 0, .int .u64 0, .int .u32 0, .int .i64 0, .int .i64 0, .slice none 0 0, .slice none 0 0] _ _ HN.out
  have hB9 := below_setRow (cs := #[.int .i64 0, .int .i64 0, .int .i64 0, .int .i64 0, .int .u32 0, .int .u64 0, .int .u32 0, .int .i64 0, .int .i64 0, .slice none 0 0, .slice none 0 0]) HB.out (g := w.heap.size) (by omega)
  generalize W.setRow _ _ = X9 at hN9 hB9 ⊢
  refine bodyPost_ret (v := .tuple #[.agg #[.int .i64 0, .int .i64 0, .int .i64 0, .int .i64 0, .int .u32 0, .int .u64 0, .int .u32 0, .int .i64 0, .int .i64 0, .slice none 0 0, .slice none 0 0], .int .i64 1]) (results_row_tmp (P := Try.prog) Try.results18 _ _ w.heap.size 47 _ (0, 0) _ _ rfl rfl hN9 Try.underlying47 rfl (by kernel_rfl)) rfl ⟨rfl, ?_⟩
  exact hB9
set_option maxHeartbeats 2000000 in
theorem rpIn0 (k d y at_ of nd m : Int) (n : Nat) (w : World) (HC : Hid (∀ W : World, Calls Try.prog 16 #[.int .i64 k] W fun e w' => e = .returned (.int .i64 n) ∧ W = w'))  (hn : ((n : Int) == 0) = false) (h0 : ¬ at_ < 0) (h1 : ¬ (n : Int) < at_)
    (HP : Hid (∀ W : World, Calls Try.prog 27 #[.int .i64 k, .int .i64 d, .int .i64 y, .int .i64 at_, .slice none 0 0, .slice none 0 0] W fun e w' => e = .returned (.agg #[.int .i64 d, .int .i64 y, .int .i64 n, .int .i64 2, .int .u32 0, .int .u64 of, .int .u32 0, .int .i64 nd, .int .i64 m, .slice none 0 0, .slice none 0 0]) ∧ Below W.heap.size W w'))
    (HE : Hid (∀ W : World, Calls Try.prog 28 #[.int .i64 k, .agg #[.int .i64 d, .int .i64 y, .int .i64 n, .int .i64 2, .int .u32 0, .int .u64 of, .int .u32 0, .int .i64 nd, .int .i64 m, .slice none 0 0, .slice none 0 0]] W fun e w' => e = .returned (.int .i64 0) ∧ Below W.heap.size W w')) :
    Calls Try.prog 18 #[.int .i64 k, .int .i64 d, .int .i64 y, .int .i64 at_] w fun e w' => e = .returned (.tuple #[.agg #[.int .i64 d, .int .i64 y, .int .i64 n, .int .i64 2, .int .u32 0, .int .u64 of, .int .u32 0, .int .i64 nd, .int .i64 m, .slice none 0 0, .slice none 0 0], .int .i64 0]) ∧ Below w.heap.size w w' := by
  have b0 : decide (at_ < 0) = false := by simpa using h0
  have b1 : decide ((n : Int) < at_) = false := by simpa using h1
  clear h0 h1
  go_enter Try.func18, Try.ntmps18
  refine wp_seq_k fun K hK => ?_
  have HK := TW.hide hK
  clear hK
  go_wp2
  refine HK.out _ _ ?_
  clear HK K
  have n0 := heap_alloc_new w (.cells #[.int .i64 0, .int .i64 0, .int .i64 0, .int .i64 0, .int .u32 0, .int .u64 0, .int .u32 0, .int .i64 0, .int .i64 0, .slice none 0 0, .slice none 0 0] 47)
  have hb := (Below.refl w.heap.size w).alloc (Nat.le_refl _) (.cells #[.int .i64 0, .int .i64 0, .int .i64 0, .int .i64 0, .int .u32 0, .int .u64 0, .int .u32 0, .int .i64 0, .int .i64 0, .slice none 0 0, .slice none 0 0] 47)
  generalize w.alloc _ = W at n0 hb ⊢
  have hE := blk_lt n0
  have HN := TW.hide n0
  have HB := TW.hide hb
  clear n0 hb
  go_wp2_with fail
  refine (HC.out _).mono ?_
  rintro e w1 ⟨rfl, rfl⟩
  go_wp2_with fail
  refine (HC.out _).mono ?_
  rintro e w1 ⟨rfl, rfl⟩
  go_wp2_with fail
  refine (HP.out _).mono ?_
  rintro e w3 ⟨rfl, hb3⟩
  have N3 := TW.hide (blk_alloc (o' := .cells #[.int .i64 0, .int .i64 0, .int .i64 0, .int .i64 0, .int .u32 0, .int .u64 0, .int .u32 0, .int .i64 0, .int .i64 0, .slice none 0 0, .slice none 0 0] 47) (blk_keep HN.out hb3))
  have B3 : Hid (Below w.heap.size w w3) := below_row HB.out hb3 (by omega)
  have hl3 : w.heap.size < w3.heap.size := blk_lt (blk_keep HN.out hb3)
  clear hb3 HN HB
  have A3 := TW.hide (heap_alloc_new w3 (.cells #[.int .i64 0, .int .i64 0, .int .i64 0, .int .i64 0, .int .u32 0, .int .u64 0, .int .u32 0, .int .i64 0, .int .i64 0, .slice none 0 0, .slice none 0 0] 47))
  have B3a : Hid (Below w.heap.size w (w3.alloc (.cells #[.int .i64 0, .int .i64 0, .int .i64 0, .int .i64 0, .int .u32 0, .int .u64 0, .int .u32 0, .int .i64 0, .int .i64 0, .slice none 0 0, .slice none 0 0] 47))) := B3.out.alloc B3.out.size _
  have A4 := TW.hide (setRow_heap _ _ _ #[.int .i64 d, .int .i64 y, .int .i64 n, .int .i64 2, .int .u32 0, .int .u64 of, .int .u32 0, .int .i64 nd, .int .i64 m, .slice none 0 0, .slice none 0 0] _ _ A3.out)
  have N4 : Hid (((w3.alloc (.cells #[.int .i64 0, .int .i64 0, .int .i64 0, .int .i64 0, .int .u32 0, .int .u64 0, .int .u32 0, .int .i64 0, .int .i64 0, .slice none 0 0, .slice none 0 0] 47)).setRow w3.heap.size #[.int .i64 d, .int .i64 y, .int .i64 n, .int .i64 2, .int .u32 0, .int .u64 of, .int .u32 0, .int .i64 nd, .int .i64 m, .slice none 0 0, .slice none 0 0]).heap[w.heap.size]? = some (.cells #[.int .i64 0, .int .i64 0, .int .i64 0, .int .i64 0, .int .u32 0, .int .u64 0, .int .u32 0, .int .i64 0, .int .i64 0, .slice none 0 0, .slice none 0 0] 47 (0, 0))) := by show _ = _; rw [setRow_other _ _ _ _ (by omega)]; exact N3.out
  have B4 := TW.hide (below_setRow (cs := #[.int .i64 d, .int .i64 y, .int .i64 n, .int .i64 2, .int .u32 0, .int .u64 of, .int .u32 0, .int .i64 nd, .int .i64 m, .slice none 0 0, .slice none 0 0]) B3a.out (g := w3.heap.size) (by omega))
  obtain ⟨q0, q1, q2, q3, q4, q5, q6, q7, q8, q9, q10, f0, f1, f2, f3, f4, f5, f6, f7, f8, f9, f10⟩ := cells11 A4.out
  clear f0 f1 f2 f3 f4 f5 f6 f7 f8 f9 f10
  go_wp2_with (first | (refine wpList_store_row (by rfl) 47 _ _ (by rfl) w3.heap.size #[.int .i64 d, .int .i64 y, .int .i64 n, .int .i64 2, .int .u32 0, .int .u64 of, .int .u32 0, .int .i64 nd, .int .i64 m, .slice none 0 0, .slice none 0 0] (by rfl) (by rfl) 47 _ A3.out (by kernel_rfl) (by rfl) (by simp [Value.oneCell']) ?_))
  generalize hgg : w3.heap.size = g at *
  generalize (w3.alloc (.cells #[.int .i64 0, .int .i64 0, .int .i64 0, .int .i64 0, .int .u32 0, .int .u64 0, .int .u32 0, .int .i64 0, .int .i64 0, .slice none 0 0, .slice none 0 0] 47)).setRow g #[.int .i64 d, .int .i64 y, .int .i64 n, .int .i64 2, .int .u32 0, .int .u64 of, .int .u32 0, .int .i64 nd, .int .i64 m, .slice none 0 0, .slice none 0 0] = X at *
  refine (HE.out _).mono ?_
  rintro e w5 ⟨rfl, hb5⟩
  have A5 := blk_keep A4.out hb5
  have N5 := TW.hide (blk_keep N4.out hb5)
  have B5 : Hid (Below w.heap.size w w5) := below_row B4.out hb5 B4.out.size
  clear hb5 A4 N4 B4 A3 N3 B3 B3a hgg q0 q1 q2 q3 q4 q5 q6 q7 q8 q9 q10
  obtain ⟨p0, p1, p2, p3, p4, p5, p6, p7, p8, p9, p10, f0, f1, f2, f3, f4, f5, f6, f7, f8, f9, f10⟩ := cells11 A5
  clear A5 f0 f1 f2 f3 f4 f5 f6 f7 f8 f9 f10
  go_wp2_with (first | (refine wpList_store_row (by rfl) 47 _ _ (by rfl) w.heap.size #[.int .i64 d, .int .i64 y, .int .i64 n, .int .i64 2, .int .u32 0, .int .u64 of, .int .u32 0, .int .i64 nd, .int .i64 m, .slice none 0 0, .slice none 0 0] (by rfl) (by rfl) 47 _ N5.out (by kernel_rfl) (by rfl) (by simp [Value.oneCell']) ?_))
  have hN9 := setRow_heap _ _ _ #[.int .i64 d, .int .i64 y, .int .i64 n, .int .i64 2, .int .u32 0, .int .u64 of, .int .u32 0, .int .i64 nd, .int .i64 m, .slice none 0 0, .slice none 0 0] _ _ N5.out
  have hB9 := below_setRow (cs := #[.int .i64 d, .int .i64 y, .int .i64 n, .int .i64 2, .int .u32 0, .int .u64 of, .int .u32 0, .int .i64 nd, .int .i64 m, .slice none 0 0, .slice none 0 0]) B5.out (g := w.heap.size) (by omega)
  generalize w5.setRow _ _ = X9 at hN9 hB9 ⊢
  refine bodyPost_ret (v := .tuple #[.agg #[.int .i64 d, .int .i64 y, .int .i64 n, .int .i64 2, .int .u32 0, .int .u64 of, .int .u32 0, .int .i64 nd, .int .i64 m, .slice none 0 0, .slice none 0 0], .int .i64 0]) (results_row_tmp (P := Try.prog) Try.results18 _ _ w.heap.size 47 _ (0, 0) _ _ rfl rfl hN9 Try.underlying47 rfl (by kernel_rfl)) rfl ⟨rfl, ?_⟩
  exact hB9
set_option maxHeartbeats 2000000 in
theorem rpInE (k d y at_ of nd m E : Int) (n : Nat) (w : World) (HC : Hid (∀ W : World, Calls Try.prog 16 #[.int .i64 k] W fun e w' => e = .returned (.int .i64 n) ∧ W = w')) (hE0 : E ≠ 0) (hn : ((n : Int) == 0) = false) (h0 : ¬ at_ < 0) (h1 : ¬ (n : Int) < at_)
    (HP : Hid (∀ W : World, Calls Try.prog 27 #[.int .i64 k, .int .i64 d, .int .i64 y, .int .i64 at_, .slice none 0 0, .slice none 0 0] W fun e w' => e = .returned (.agg #[.int .i64 d, .int .i64 y, .int .i64 n, .int .i64 2, .int .u32 0, .int .u64 of, .int .u32 0, .int .i64 nd, .int .i64 m, .slice none 0 0, .slice none 0 0]) ∧ Below W.heap.size W w'))
    (HE : Hid (∀ W : World, Calls Try.prog 28 #[.int .i64 k, .agg #[.int .i64 d, .int .i64 y, .int .i64 n, .int .i64 2, .int .u32 0, .int .u64 of, .int .u32 0, .int .i64 nd, .int .i64 m, .slice none 0 0, .slice none 0 0]] W fun e w' => e = .returned (.int .i64 E) ∧ Below W.heap.size W w')) :
    Calls Try.prog 18 #[.int .i64 k, .int .i64 d, .int .i64 y, .int .i64 at_] w fun e w' => e = .returned (.tuple #[.agg #[.int .i64 0, .int .i64 0, .int .i64 0, .int .i64 0, .int .u32 0, .int .u64 0, .int .u32 0, .int .i64 0, .int .i64 0, .slice none 0 0, .slice none 0 0], .int .i64 E]) ∧ Below w.heap.size w w' := by
  have b0 : decide (at_ < 0) = false := by simpa using h0
  have b1 : decide ((n : Int) < at_) = false := by simpa using h1
  clear h0 h1
  go_enter Try.func18, Try.ntmps18
  refine wp_seq_k fun K hK => ?_
  have HK := TW.hide hK
  clear hK
  go_wp2
  refine HK.out _ _ ?_
  clear HK K
  have n0 := heap_alloc_new w (.cells #[.int .i64 0, .int .i64 0, .int .i64 0, .int .i64 0, .int .u32 0, .int .u64 0, .int .u32 0, .int .i64 0, .int .i64 0, .slice none 0 0, .slice none 0 0] 47)
  have hb := (Below.refl w.heap.size w).alloc (Nat.le_refl _) (.cells #[.int .i64 0, .int .i64 0, .int .i64 0, .int .i64 0, .int .u32 0, .int .u64 0, .int .u32 0, .int .i64 0, .int .i64 0, .slice none 0 0, .slice none 0 0] 47)
  generalize w.alloc _ = W at n0 hb ⊢
  have hE := blk_lt n0
  have HN := TW.hide n0
  have HB := TW.hide hb
  clear n0 hb
  go_wp2_with fail
  refine (HC.out _).mono ?_
  rintro e w1 ⟨rfl, rfl⟩
  go_wp2_with fail
  refine (HC.out _).mono ?_
  rintro e w1 ⟨rfl, rfl⟩
  go_wp2_with fail
  refine (HP.out _).mono ?_
  rintro e w3 ⟨rfl, hb3⟩
  have N3 := TW.hide (blk_alloc (o' := .cells #[.int .i64 0, .int .i64 0, .int .i64 0, .int .i64 0, .int .u32 0, .int .u64 0, .int .u32 0, .int .i64 0, .int .i64 0, .slice none 0 0, .slice none 0 0] 47) (blk_keep HN.out hb3))
  have B3 : Hid (Below w.heap.size w w3) := below_row HB.out hb3 (by omega)
  have hl3 : w.heap.size < w3.heap.size := blk_lt (blk_keep HN.out hb3)
  clear hb3 HN HB
  have A3 := TW.hide (heap_alloc_new w3 (.cells #[.int .i64 0, .int .i64 0, .int .i64 0, .int .i64 0, .int .u32 0, .int .u64 0, .int .u32 0, .int .i64 0, .int .i64 0, .slice none 0 0, .slice none 0 0] 47))
  have B3a : Hid (Below w.heap.size w (w3.alloc (.cells #[.int .i64 0, .int .i64 0, .int .i64 0, .int .i64 0, .int .u32 0, .int .u64 0, .int .u32 0, .int .i64 0, .int .i64 0, .slice none 0 0, .slice none 0 0] 47))) := B3.out.alloc B3.out.size _
  have A4 := TW.hide (setRow_heap _ _ _ #[.int .i64 d, .int .i64 y, .int .i64 n, .int .i64 2, .int .u32 0, .int .u64 of, .int .u32 0, .int .i64 nd, .int .i64 m, .slice none 0 0, .slice none 0 0] _ _ A3.out)
  have N4 : Hid (((w3.alloc (.cells #[.int .i64 0, .int .i64 0, .int .i64 0, .int .i64 0, .int .u32 0, .int .u64 0, .int .u32 0, .int .i64 0, .int .i64 0, .slice none 0 0, .slice none 0 0] 47)).setRow w3.heap.size #[.int .i64 d, .int .i64 y, .int .i64 n, .int .i64 2, .int .u32 0, .int .u64 of, .int .u32 0, .int .i64 nd, .int .i64 m, .slice none 0 0, .slice none 0 0]).heap[w.heap.size]? = some (.cells #[.int .i64 0, .int .i64 0, .int .i64 0, .int .i64 0, .int .u32 0, .int .u64 0, .int .u32 0, .int .i64 0, .int .i64 0, .slice none 0 0, .slice none 0 0] 47 (0, 0))) := by show _ = _; rw [setRow_other _ _ _ _ (by omega)]; exact N3.out
  have B4 := TW.hide (below_setRow (cs := #[.int .i64 d, .int .i64 y, .int .i64 n, .int .i64 2, .int .u32 0, .int .u64 of, .int .u32 0, .int .i64 nd, .int .i64 m, .slice none 0 0, .slice none 0 0]) B3a.out (g := w3.heap.size) (by omega))
  obtain ⟨q0, q1, q2, q3, q4, q5, q6, q7, q8, q9, q10, f0, f1, f2, f3, f4, f5, f6, f7, f8, f9, f10⟩ := cells11 A4.out
  clear f0 f1 f2 f3 f4 f5 f6 f7 f8 f9 f10
  go_wp2_with (first | (refine wpList_store_row (by rfl) 47 _ _ (by rfl) w3.heap.size #[.int .i64 d, .int .i64 y, .int .i64 n, .int .i64 2, .int .u32 0, .int .u64 of, .int .u32 0, .int .i64 nd, .int .i64 m, .slice none 0 0, .slice none 0 0] (by rfl) (by rfl) 47 _ A3.out (by kernel_rfl) (by rfl) (by simp [Value.oneCell']) ?_))
  generalize hgg : w3.heap.size = g at *
  generalize (w3.alloc (.cells #[.int .i64 0, .int .i64 0, .int .i64 0, .int .i64 0, .int .u32 0, .int .u64 0, .int .u32 0, .int .i64 0, .int .i64 0, .slice none 0 0, .slice none 0 0] 47)).setRow g #[.int .i64 d, .int .i64 y, .int .i64 n, .int .i64 2, .int .u32 0, .int .u64 of, .int .u32 0, .int .i64 nd, .int .i64 m, .slice none 0 0, .slice none 0 0] = X at *
  refine (HE.out _).mono ?_
  rintro e w5 ⟨rfl, hb5⟩
  have A5 := blk_keep A4.out hb5
  have N5 := TW.hide (blk_keep N4.out hb5)
  have B5 : Hid (Below w.heap.size w w5) := below_row B4.out hb5 B4.out.size
  clear hb5 A4 N4 B4 A3 N3 B3 B3a hgg q0 q1 q2 q3 q4 q5 q6 q7 q8 q9 q10
  have hne : (E != 0) = true := by simp [hE0]
  clear hE0 A5
  go_wp2_with (first | (refine wpList_store_row (by rfl) 47 _ _ (by rfl) w.heap.size #[.int .i64 0, .int .i64 0, .int .i64 0, .int .i64 0, .int .u32 0, .int .u64 0, .int .u32 0, .int .i64 0, .int .i64 0, .slice none 0 0, .slice none 0 0] (by rfl) (by rfl) 47 _ N5.out (by kernel_rfl) (by rfl) (by simp [Value.oneCell']) ?_))
  have hN9 := setRow_heap _ _ _ #[.int .i64 0, .int .i64 0, .int .i64 0, .int .i64 0, .int .u32 0, .int .u64 0, .int .u32 0, .int .i64 0, .int .i64 0, .slice none 0 0, .slice none 0 0] _ _ N5.out
  have hB9 := below_setRow (cs := #[.int .i64 0, .int .i64 0, .int .i64 0, .int .i64 0, .int .u32 0, .int .u64 0, .int .u32 0, .int .i64 0, .int .i64 0, .slice none 0 0, .slice none 0 0]) B5.out (g := w.heap.size) (by omega)
  generalize w5.setRow _ _ = X9 at hN9 hB9 ⊢
  refine bodyPost_ret (v := .tuple #[.agg #[.int .i64 0, .int .i64 0, .int .i64 0, .int .i64 0, .int .u32 0, .int .u64 0, .int .u32 0, .int .i64 0, .int .i64 0, .slice none 0 0, .slice none 0 0], .int .i64 E]) (results_row_tmp (P := Try.prog) Try.results18 _ _ w.heap.size 47 _ (0, 0) _ _ rfl rfl hN9 Try.underlying47 rfl (by kernel_rfl)) rfl ⟨rfl, ?_⟩
  exact hB9
/-- What both Params answer: the error, and the numbers. -/
def peL (k d y at_ : Int) : Int := if nl k = 0 then 1 else if at_ < 0 ∨ (nl k : Int) < at_ then 1 else ck k d y (nl k) 2 (ofs k at_) 0 (ndp k at_) (mo k) 0 0
def ppL (k d y at_ : Int) : Array Value := if peL k d y at_ = 0 then pc d y (nl k) 2 0 (ofs k at_) 0 (ndp k at_) (mo k) (.slice none 0 0) (.slice none 0 0) else pc 0 0 0 0 0 0 0 0 0 (.slice none 0 0) (.slice none 0 0)
theorem nl8 (k : Int) : nl k ≤ 8 := by unfold nl; split <;> (try split) <;> omega
theorem ofs_b (k at_ : Int) (h0 : 0 ≤ at_) (h1 : at_ ≤ 8) : 0 ≤ ofs k at_ ∧ ofs k at_ < 18446744073709551616 := by unfold ofs; split <;> omega
theorem lparams (k d y at_ : Int) (w : World) : Calls Try.prog 17 #[.int .i64 k, .int .i64 d, .int .i64 y, .int .i64 at_] w fun e w' => e = .returned (.tuple #[.agg (ppL k d y at_), .int .i64 (peL k d y at_)]) ∧ Below w.heap.size w w' := by
  have h8 := nl8 k
  have hc := fun W => count k W
  rcases ke_nl k with ⟨h1, h2⟩ | ⟨h1, h2⟩
  · have e1 : peL k d y at_ = 1 := by simp [peL, h1]
    rw [ppL, e1]
    simp only [h2] at hc
    exact lpNone k d y at_ (nl k) w hc
  · simp only [h2] at hc
    by_cases ha : at_ < 0 ∨ (nl k : Int) < at_
    · have e1 : peL k d y at_ = 1 := by unfold peL; rw [if_neg (by omega), if_pos ha]
      rw [ppL, e1]
      exact lpOut k d y at_ (nl k) w hc ha
    · have e1 : peL k d y at_ = ck k d y (nl k) 2 (ofs k at_) 0 (ndp k at_) (mo k) 0 0 := by unfold peL; rw [if_neg (by omega), if_neg ha]
      have ho := ofs_b k at_ (by omega) (by omega)
      have hE := fun W => check k d y (nl k) 2 0 (ofs k at_) 0 (ndp k at_) (mo k) none none 0 0 0 0 W (by omega) (by omega) (by omega) (by omega)
      rw [← e1] at hE
      have hP := fun W => params_ k d y at_ none none 0 0 0 0 W (by omega) (by omega)
      have hL := fun W => lane_ k d y at_ none none 0 0 0 0 W
      by_cases hE0 : peL k d y at_ = 0
      · rw [ppL, hE0, if_pos rfl]
        rw [hE0] at hE
        exact lpIn0 k d y at_ _ _ _ (nl k) w hc (by omega) (by omega) hL hP hE
      · rw [ppL, if_neg hE0]
        exact lpInE k d y at_ _ _ _ _ (nl k) w hc hE0 (by omega) (by omega) hL hP hE
theorem rlparams (k d y at_ : Int) (w : World) : Calls Try.prog 18 #[.int .i64 k, .int .i64 d, .int .i64 y, .int .i64 at_] w fun e w' => e = .returned (.tuple #[.agg (ppL k d y at_), .int .i64 (peL k d y at_)]) ∧ Below w.heap.size w w' := by
  have h8 := nl8 k
  have hc := fun W => rcount k W
  rcases ke_nl k with ⟨h1, h2⟩ | ⟨h1, h2⟩
  · have e1 : peL k d y at_ = 1 := by simp [peL, h1]
    rw [ppL, e1]
    simp only [h1] at hc
    exact rpNone k d y at_ w hc
  · have hn : ((nl k : Int) == 0) = false := by simp; omega
    by_cases ha : at_ < 0 ∨ (nl k : Int) < at_
    · have e1 : peL k d y at_ = 1 := by unfold peL; rw [if_neg (by omega), if_pos ha]
      rw [ppL, e1]
      by_cases hl : at_ < 0
      · exact rpLow k d y at_ (nl k) w hc hn (by simpa using hl)
      · exact rpHigh k d y at_ (nl k) w hc hn (by simpa using hl) (by simp; omega)
    · have e1 : peL k d y at_ = ck k d y (nl k) 2 (ofs k at_) 0 (ndp k at_) (mo k) 0 0 := by unfold peL; rw [if_neg (by omega), if_neg ha]
      have ho := ofs_b k at_ (by omega) (by omega)
      have hE := fun W => rcheck k d y (nl k) 2 0 (ofs k at_) 0 (ndp k at_) (mo k) none none 0 0 0 0 W (by omega) (by omega) (by omega)
      rw [← e1] at hE
      have hP := fun W => rparams_ k d y at_ none none 0 0 0 0 W (by omega) (by omega)
      by_cases hE0 : peL k d y at_ = 0
      · rw [ppL, hE0, if_pos rfl]
        rw [hE0] at hE
        exact rpIn0 k d y at_ _ _ _ (nl k) w hc hn (by omega) (by omega) hP hE
      · rw [ppL, if_neg hE0]
        exact rpInE k d y at_ _ _ _ _ (nl k) w hc hE0 hn (by omega) (by omega) hP hE
end LW
end Go.Proofs.Ythbakhgfnfdahaa
