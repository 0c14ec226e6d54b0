/-
  What the calls Params of the program and of the document give.
-/
import Derived.Test.YthbakhgfnfdahaaParamsW
namespace Go.Proofs.Ythbakhgfnfdahaa
open Go.RowKit
set_option linter.unusedVariables false
set_option linter.unusedSimpArgs false
namespace LW
open Words
attribute [local go_sem ↓] Go.wp_at_zero Go.wp_at_succ
set_option maxHeartbeats 1000000 in
theorem lpNone (k d y at_ : Int) (n : Nat) (w : World) (HC : Hid (∀ W : World, Calls Try.prog 15 #[.int .i64 k] W fun e w' => e = .returned (.tuple #[.int .i64 n, .int .i64 1]) ∧ Below W.heap.size W w')) :
    Calls Try.prog 17 #[.int .i64 k, .int .i64 d, .int .i64 y, .int .i64 at_] w fun e w' => e = .returned (.tuple #[.agg #[.int .i64 0, .int .i64 0, .int .i64 0, .int .i64 0, .int .u32 0, .int .u64 0, .int .u32 0, .int .i64 0, .int .i64 0, .slice none 0 0, .slice none 0 0], .int .i64 1]) ∧ Below w.heap.size w w' := by
  go_enter Try.func17, Try.ntmps17
  refine wp_seq_k fun K hK => ?_
  have HK := TW.hide hK
  clear hK
  go_wp2
  refine HK.out _ _ ?_
  clear HK K
  have n0 := heap_alloc_new w (.cells #[.int .i64 0, .int .i64 0, .int .i64 0, .int .i64 0, .int .u32 0, .int .u64 0, .int .u32 0, .int .i64 0, .int .i64 0, .slice none 0 0, .slice none 0 0] 47)
  have hb := (Below.refl w.heap.size w).alloc (Nat.le_refl _) (.cells #[.int .i64 0, .int .i64 0, .int .i64 0, .int .i64 0, .int .u32 0, .int .u64 0, .int .u32 0, .int .i64 0, .int .i64 0, .slice none 0 0, .slice none 0 0] 47)
  generalize w.alloc _ = W at n0 hb ⊢
  have hE := blk_lt n0
  have HN := TW.hide n0
  have HB := TW.hide hb
  clear n0 hb
  go_wp2_with fail
  refine (HC.out _).mono ?_
  rintro e w1 ⟨rfl, hb1⟩
  have N1 := TW.hide (blk_keep HN.out hb1)
  have B1 : Hid (Below w.heap.size w w1) := below_row HB.out hb1 (by omega)
  clear hb1 HN HB
  go_wp2_with (first | (refine wpList_store_row (by rfl) 47 _ _ (by rfl) w.heap.size #[.int .i64 0, .int .i64 0, .int .i64 0, .int .i64 0, .int .u32 0, .int .u64 0, .int .u32 0, .int .i64 0, .int .i64 0, .slice none 0 0, .slice none 0 0] (by rfl) (by rfl) 47 _ N1.out (by kernel_rfl) (by rfl) (by simp [Value.oneCell']) ?_))
  have hN9 := setRow_heap _ _ _ #[.int .i64 0, .int .i64 0, .int .i64 0, .int .i64 0, .int .u32 0, .int .u64 0, .int .u32 0, .int .i64 0, .int .i64 0, .slice none 0 0, .slice none 0 0] _ _ N1.out
  have hB9 := below_setRow (cs := #[.int .i64 0, .int .i64 0, .int .i64 0, .int .i64 0, .int .u32 0, .int .u64 0, .int .u32 0, .int .i64 0, .int .i64 0, .slice none 0 0, .slice none 0 0]) B1.out (g := w.heap.size) (by omega)
  generalize w1.setRow _ _ = X9 at hN9 hB9 ⊢
  refine bodyPost_ret (v := .tuple #[.agg #[.int .i64 0, .int .i64 0, .int .i64 0, .int .i64 0, .int .u32 0, .int .u64 0, .int .u32 0, .int .i64 0, .int .i64 0, .slice none 0 0, .slice none 0 0], .int .i64 1]) (results_row_tmp (P := Try.prog) Try.results17 _ _ w.heap.size 47 _ (0, 0) _ _ rfl rfl hN9 Try.underlying47 rfl (by kernel_rfl)) rfl ⟨rfl, ?_⟩
  exact hB9
set_option maxHeartbeats 1000000 in
theorem lpOut (k d y at_ : Int) (n : Nat) (w : World) (HC : Hid (∀ W : World, Calls Try.prog 15 #[.int .i64 k] W fun e w' => e = .returned (.tuple #[.int .i64 n, .int .i64 0]) ∧ Below W.heap.size W w')) (ha : at_ < 0 ∨ (n : Int) < at_) :
    Calls Try.prog 17 #[.int .i64 k, .int .i64 d, .int .i64 y, .int .i64 at_] w fun e w' => e = .returned (.tuple #[.agg #[.int .i64 0, .int .i64 0, .int .i64 0, .int .i64 0, .int .u32 0, .int .u64 0, .int .u32 0, .int .i64 0, .int .i64 0, .slice none 0 0, .slice none 0 0], .int .i64 1]) ∧ Below w.heap.size w w' := by
  have hc : decide (at_ < 0) = true ∨ (decide (at_ < 0) = false ∧ decide ((n : Int) < at_) = true) := by
    rcases ha with h | h
    · exact .inl (by simp [h])
    · by_cases h' : at_ < 0
      · exact .inl (by simp [h'])
      · exact .inr ⟨by simpa using h', by simp [h]⟩
  clear ha
  go_enter Try.func17, Try.ntmps17
  refine wp_seq_k fun K hK => ?_
  have HK := TW.hide hK
  clear hK
  go_wp2
  refine HK.out _ _ ?_
  clear HK K
  have n0 := heap_alloc_new w (.cells #[.int .i64 0, .int .i64 0, .int .i64 0, .int .i64 0, .int .u32 0, .int .u64 0, .int .u32 0, .int .i64 0, .int .i64 0, .slice none 0 0, .slice none 0 0] 47)
  have hb := (Below.refl w.heap.size w).alloc (Nat.le_refl _) (.cells #[.int .i64 0, .int .i64 0, .int .i64 0, .int .i64 0, .int .u32 0, .int .u64 0, .int .u32 0, .int .i64 0, .int .i64 0, .slice none 0 0, .slice none 0 0] 47)
  generalize w.alloc _ = W at n0 hb ⊢
  have hE := blk_lt n0
  have HN := TW.hide n0
  have HB := TW.hide hb
  clear n0 hb
  go_wp2_with fail
  refine (HC.out _).mono ?_
  rintro e w1 ⟨rfl, hb1⟩
  have N1 := TW.hide (blk_keep HN.out hb1)
  have B1 : Hid (Below w.heap.size w w1) := below_row HB.out hb1 (by omega)
  clear hb1 HN HB
  rcases hc with hc | ⟨hc1, hc2⟩
  · go_wp2_with (first | (refine wpList_store_row (by rfl) 47 _ _ (by rfl) w.heap.size #[.int .i64 0, .int .i64 0, .int .i64 0, .int .i64 0, .int .u32 0, .int .u64 0, .int .u32 0, .int .i64 0, .int .i64 0, .slice none 0 0, .slice none 0 0] (by rfl) (by rfl) 47 _ N1.out (by kernel_rfl) (by rfl) (by simp [Value.oneCell']) ?_))
    have hN9 := setRow_heap _ _ _ #[.int .i64 0, .int .i64 0, .int .i64 0, .int .i64 0, .int .u32 0, .int .u64 0, .int .u32 0, .int .i64 0, .int .i64 0, .slice none 0 0, .slice none 0 0] _ _ N1.out
    have hB9 := below_setRow (cs := #[.int .i64 0, .int .i64 0, .int .i64 0, .int .i64 0, .int .u32 0, .int .u64 0, .int .u32 0, .int .i64 0, .int .i64 0, .slice none 0 0, .slice none 0 0]) B1.out (g := w.heap.size) (by omega)
    generalize w1.setRow _ _ = X9 at hN9 hB9 ⊢
    refine bodyPost_ret (v := .tuple #[.agg #[.int .i64 0, .int .i64 0, .int .i64 0, .int .i64 0, .int .u32 0, .int .u64 0, .int .u32 0, .int .i64 0, .int .i64 0, .slice none 0 0, .slice none 0 0], .int .i64 1]) (results_row_tmp (P := Try.prog) Try.results17 _ _ w.heap.size 47 _ (0, 0) _ _ rfl rfl hN9 Try.underlying47 rfl (by kernel_rfl)) rfl ⟨rfl, ?_⟩
    exact hB9
  · go_wp2_with (first | (refine wpList_store_row (by rfl) 47 _ _ (by rfl) w.heap.size #[.int .i64 0, .int .i64 0, .int .i64 0, .int .i64 0, .int .u32 0, .int .u64 0, .int .u32 0, .int .i64 0, .int .i64 0, .slice none 0 0, .slice none 0 0] (by rfl) (by rfl) 47 _ N1.out (by kernel_rfl) (by rfl) (by simp [Value.oneCell']) ?_))
    have hN9 := setRow_heap _ _ _ #[.int .i64 0, .int .i64 0, .int .i64 0, .int .i64 0, .int .u32 0, .int .u64 0, .int .u32 0, .int .i64 0, .int .i64 0, .slice none 0 0, .slice none 0 0] _ _ N1.out
    have hB9 := below_setRow (cs := #[.int .i64 0, .int .i64 0, .int .i64 0, .int .i64 0, .int .u32 0, .int .u64 0, .int .u32 0, .int .i64 0, .int .i64 0, .slice none 0 0, .slice none 0 0]) B1.out (g := w.heap.size) (by omega)
    generalize w1.setRow _ _ = X9 at hN9 hB9 ⊢
    refine bodyPost_ret (v := .tuple #[.agg #[.int .i64 0, .int .i64 0, .int .i64 0, .int .i64 0, .int .u32 0, .int .u64 0, .int .u32 0, .int .i64 0, .int .i64 0, .slice none 0 0, .slice none 0 0], .int .i64 1]) (results_row_tmp (P := Try.prog) Try.results17 _ _ w.heap.size 47 _ (0, 0) _ _ rfl rfl hN9 Try.underlying47 rfl (by kernel_rfl)) rfl ⟨rfl, ?_⟩
    exact hB9
set_option maxHeartbeats 2000000 in
theorem lpIn0 (k d y at_ of nd m : Int) (n : Nat) (w : World) (HC : Hid (∀ W : World, Calls Try.prog 15 #[.int .i64 k] W fun e w' => e = .returned (.tuple #[.int .i64 n, .int .i64 0]) ∧ Below W.heap.size W w'))  (h0 : ¬ at_ < 0) (h1 : ¬ (n : Int) < at_)
    (HL : Hid (∀ W : World, Calls Try.prog 24 #[.agg #[.int .i64 k, .int .i64 d, .int .i64 y, .slice none 0 0, .slice none 0 0], .int .i64 at_] W fun e w' => e = .returned (.agg #[.int .i64 k, .int .i64 d, .int .i64 y, .slice none 0 0, .slice none 0 0, .int .i64 at_]) ∧ Below W.heap.size W w'))
    (HP : Hid (∀ W : World, Calls Try.prog 25 #[.agg #[.int .i64 k, .int .i64 d, .int .i64 y, .slice none 0 0, .slice none 0 0, .int .i64 at_]] W fun e w' => e = .returned (.agg #[.int .i64 d, .int .i64 y, .int .i64 n, .int .i64 2, .int .u32 0, .int .u64 of, .int .u32 0, .int .i64 nd, .int .i64 m, .slice none 0 0, .slice none 0 0]) ∧ Below W.heap.size W w'))
    (HE : Hid (∀ W : World, Calls Try.prog 26 #[.int .i64 k, .agg #[.int .i64 d, .int .i64 y, .int .i64 n, .int .i64 2, .int .u32 0, .int .u64 of, .int .u32 0, .int .i64 nd, .int .i64 m, .slice none 0 0, .slice none 0 0]] W fun e w' => e = .returned (.int .i64 0) ∧ Below W.heap.size W w')) :
    Calls Try.prog 17 #[.int .i64 k, .int .i64 d, .int .i64 y, .int .i64 at_] w fun e w' => e = .returned (.tuple #[.agg #[.int .i64 d, .int .i64 y, .int .i64 n, .int .i64 2, .int .u32 0, .int .u64 of, .int .u32 0, .int .i64 nd, .int .i64 m, .slice none 0 0, .slice none 0 0], .int .i64 0]) ∧ Below w.heap.size w w' := by
  have b0 : decide (at_ < 0) = false := by simpa using h0
  have b1 : decide ((n : Int) < at_) = false := by simpa using h1
  clear h0 h1
  go_enter Try.func17, Try.ntmps17
  refine wp_seq_k fun K hK => ?_
  have HK := TW.hide hK
  clear hK
  go_wp2
  refine HK.out _ _ ?_
  clear HK K
  have n0 := heap_alloc_new w (.cells #[.int .i64 0, .int .i64 0, .int .i64 0, .int .i64 0, .int .u32 0, .int .u64 0, .int .u32 0, .int .i64 0, .int .i64 0, .slice none 0 0, .slice none 0 0] 47)
  have hb := (Below.refl w.heap.size w).alloc (Nat.le_refl _) (.cells #[.int .i64 0, .int .i64 0, .int .i64 0, .int .i64 0, .int .u32 0, .int .u64 0, .int .u32 0, .int .i64 0, .int .i64 0, .slice none 0 0, .slice none 0 0] 47)
  generalize w.alloc _ = W at n0 hb ⊢
  have hE := blk_lt n0
  have HN := TW.hide n0
  have HB := TW.hide hb
  clear n0 hb
  go_wp2_with fail
  refine (HC.out _).mono ?_
  rintro e w1 ⟨rfl, hb1⟩
  have N1 := TW.hide (blk_keep HN.out hb1)
  have B1 : Hid (Below w.heap.size w w1) := below_row HB.out hb1 (by omega)
  clear hb1 HN HB
  go_wp2_with fail
  refine (HL.out _).mono ?_
  rintro e w2 ⟨rfl, hb2⟩
  have N2 := TW.hide (blk_keep N1.out hb2)
  have B2 : Hid (Below w.heap.size w w2) := below_row B1.out hb2 B1.out.size
  clear hb2 N1 B1
  go_wp2_with fail
  refine (HP.out _).mono ?_
  rintro e w3 ⟨rfl, hb3⟩
  have N3 := TW.hide (blk_alloc (o' := .cells #[.int .i64 0, .int .i64 0, .int .i64 0, .int .i64 0, .int .u32 0, .int .u64 0, .int .u32 0, .int .i64 0, .int .i64 0, .slice none 0 0, .slice none 0 0] 47) (blk_keep N2.out hb3))
  have B3 : Hid (Below w.heap.size w w3) := below_row B2.out hb3 B2.out.size
  have hl3 : w.heap.size < w3.heap.size := blk_lt (blk_keep N2.out hb3)
  clear hb3 N2 B2
  have A3 := TW.hide (heap_alloc_new w3 (.cells #[.int .i64 0, .int .i64 0, .int .i64 0, .int .i64 0, .int .u32 0, .int .u64 0, .int .u32 0, .int .i64 0, .int .i64 0, .slice none 0 0, .slice none 0 0] 47))
  have B3a : Hid (Below w.heap.size w (w3.alloc (.cells #[.int .i64 0, .int .i64 0, .int .i64 0, .int .i64 0, .int .u32 0, .int .u64 0, .int .u32 0, .int .i64 0, .int .i64 0, .slice none 0 0, .slice none 0 0] 47))) := B3.out.alloc B3.out.size _
  have A4 := TW.hide (setRow_heap _ _ _ #[.int .i64 d, .int .i64 y, .int .i64 n, .int .i64 2, .int .u32 0, .int .u64 of, .int .u32 0, .int .i64 nd, .int .i64 m, .slice none 0 0, .slice none 0 0] _ _ A3.out)
  have N4 : Hid (((w3.alloc (.cells #[.int .i64 0, .int .i64 0, .int .i64 0, .int .i64 0, .int .u32 0, .int .u64 0, .int .u32 0, .int .i64 0, .int .i64 0, .slice none 0 0, .slice none 0 0] 47)).setRow w3.heap.size #[.int .i64 d, .int .i64 y, .int .i64 n, .int .i64 2, .int .u32 0, .int .u64 of, .int .u32 0, .int .i64 nd, .int .i64 m, .slice none 0 0, .slice none 0 0]).heap[w.heap.size]? = some (.cells #[.int .i64 0, .int .i64 0, .int .i64 0, .int .i64 0, .int .u32 0, .int .u64 0, .int .u32 0, .int .i64 0, .int .i64 0, .slice none 0 0, .slice none 0 0] 47 (0, 0))) := by show _ = _; rw [setRow_other _ _ _ _ (by omega)]; exact N3.out
  have B4 := TW.hide (below_setRow (cs := #[.int .i64 d, .int .i64 y, .int .i64 n, .int .i64 2, .int .u32 0, .int .u64 of, .int .u32 0, .int .i64 nd, .int .i64 m, .slice none 0 0, .slice none 0 0]) B3a.out (g := w3.heap.size) (by omega))
  have hs4 : ((w3.alloc (.cells #[.int .i64 0, .int .i64 0, .int .i64 0, .int .i64 0, .int .u32 0, .int .u64 0, .int .u32 0, .int .i64 0, .int .i64 0, .slice none 0 0, .slice none 0 0] 47)).setRow w3.heap.size #[.int .i64 d, .int .i64 y, .int .i64 n, .int .i64 2, .int .u32 0, .int .u64 of, .int .u32 0, .int .i64 nd, .int .i64 m, .slice none 0 0, .slice none 0 0]).heap.size = w3.heap.size + 1 := by simp [World.setRow]
  obtain ⟨q0, q1, q2, q3, q4, q5, q6, q7, q8, q9, q10, f0, f1, f2, f3, f4, f5, f6, f7, f8, f9, f10⟩ := cells11 A4.out
  clear f0 f1 f2 f3 f4 f5 f6 f7 f8 f9 f10
  go_wp2_with (first | (refine wpList_store_row (by rfl) 47 _ _ (by rfl) w3.heap.size #[.int .i64 d, .int .i64 y, .int .i64 n, .int .i64 2, .int .u32 0, .int .u64 of, .int .u32 0, .int .i64 nd, .int .i64 m, .slice none 0 0, .slice none 0 0] (by rfl) (by rfl) 47 _ A3.out (by kernel_rfl) (by rfl) (by simp [Value.oneCell']) ?_) | (refine wpList_val (.agg #[.int .i64 d, .int .i64 y, .int .i64 n, .int .i64 2, .int .u32 0, .int .u64 of, .int .u32 0, .int .i64 nd, .int .i64 m, .slice none 0 0, .slice none 0 0]) (by rfl) (exec_load_row' 47 _ (by rfl) w3.heap.size (by rfl) 47 #[.int .i64 d, .int .i64 y, .int .i64 n, .int .i64 2, .int .u32 0, .int .u64 of, .int .u32 0, .int .i64 nd, .int .i64 m, .slice none 0 0, .slice none 0 0] (0, 0) _ A4.out Try.underlying47 rfl (by kernel_rfl)) ?_))
  generalize hgg : w3.heap.size = g at *
  generalize (w3.alloc (.cells #[.int .i64 0, .int .i64 0, .int .i64 0, .int .i64 0, .int .u32 0, .int .u64 0, .int .u32 0, .int .i64 0, .int .i64 0, .slice none 0 0, .slice none 0 0] 47)).setRow g #[.int .i64 d, .int .i64 y, .int .i64 n, .int .i64 2, .int .u32 0, .int .u64 of, .int .u32 0, .int .i64 nd, .int .i64 m, .slice none 0 0, .slice none 0 0] = X at *
  refine (HE.out _).mono ?_
  rintro e w5 ⟨rfl, hb5⟩
  have A5 := blk_keep A4.out hb5
  have N5 := TW.hide (blk_keep N4.out hb5)
  have B5 : Hid (Below w.heap.size w w5) := below_row B4.out hb5 B4.out.size
  clear hb5 A4 N4 B4 A3 N3 B3 B3a hs4 hgg q0 q1 q2 q3 q4 q5 q6 q7 q8 q9 q10
  obtain ⟨p0, p1, p2, p3, p4, p5, p6, p7, p8, p9, p10, f0, f1, f2, f3, f4, f5, f6, f7, f8, f9, f10⟩ := cells11 A5
  clear A5 f0 f1 f2 f3 f4 f5 f6 f7 f8 f9 f10
  go_wp2_with (first | (refine wpList_store_row (by rfl) 47 _ _ (by rfl) w.heap.size #[.int .i64 d, .int .i64 y, .int .i64 n, .int .i64 2, .int .u32 0, .int .u64 of, .int .u32 0, .int .i64 nd, .int .i64 m, .slice none 0 0, .slice none 0 0] (by rfl) (by rfl) 47 _ N5.out (by kernel_rfl) (by rfl) (by simp [Value.oneCell']) ?_))
  have hN9 := setRow_heap _ _ _ #[.int .i64 d, .int .i64 y, .int .i64 n, .int .i64 2, .int .u32 0, .int .u64 of, .int .u32 0, .int .i64 nd, .int .i64 m, .slice none 0 0, .slice none 0 0] _ _ N5.out
  have hB9 := below_setRow (cs := #[.int .i64 d, .int .i64 y, .int .i64 n, .int .i64 2, .int .u32 0, .int .u64 of, .int .u32 0, .int .i64 nd, .int .i64 m, .slice none 0 0, .slice none 0 0]) B5.out (g := w.heap.size) (by omega)
  generalize w5.setRow _ _ = X9 at hN9 hB9 ⊢
  refine bodyPost_ret (v := .tuple #[.agg #[.int .i64 d, .int .i64 y, .int .i64 n, .int .i64 2, .int .u32 0, .int .u64 of, .int .u32 0, .int .i64 nd, .int .i64 m, .slice none 0 0, .slice none 0 0], .int .i64 0]) (results_row_tmp (P := Try.prog) Try.results17 _ _ w.heap.size 47 _ (0, 0) _ _ rfl rfl hN9 Try.underlying47 rfl (by kernel_rfl)) rfl ⟨rfl, ?_⟩
  exact hB9
set_option maxHeartbeats 2000000 in
theorem lpInE (k d y at_ of nd m E : Int) (n : Nat) (w : World) (HC : Hid (∀ W : World, Calls Try.prog 15 #[.int .i64 k] W fun e w' => e = .returned (.tuple #[.int .i64 n, .int .i64 0]) ∧ Below W.heap.size W w')) (hE0 : E ≠ 0) (h0 : ¬ at_ < 0) (h1 : ¬ (n : Int) < at_)
    (HL : Hid (∀ W : World, Calls Try.prog 24 #[.agg #[.int .i64 k, .int .i64 d, .int .i64 y, .slice none 0 0, .slice none 0 0], .int .i64 at_] W fun e w' => e = .returned (.agg #[.int .i64 k, .int .i64 d, .int .i64 y, .slice none 0 0, .slice none 0 0, .int .i64 at_]) ∧ Below W.heap.size W w'))
    (HP : Hid (∀ W : World, Calls Try.prog 25 #[.agg #[.int .i64 k, .int .i64 d, .int .i64 y, .slice none 0 0, .slice none 0 0, .int .i64 at_]] W fun e w' => e = .returned (.agg #[.int .i64 d, .int .i64 y, .int .i64 n, .int .i64 2, .int .u32 0, .int .u64 of, .int .u32 0, .int .i64 nd, .int .i64 m, .slice none 0 0, .slice none 0 0]) ∧ Below W.heap.size W w'))
    (HE : Hid (∀ W : World, Calls Try.prog 26 #[.int .i64 k, .agg #[.int .i64 d, .int .i64 y, .int .i64 n, .int .i64 2, .int .u32 0, .int .u64 of, .int .u32 0, .int .i64 nd, .int .i64 m, .slice none 0 0, .slice none 0 0]] W fun e w' => e = .returned (.int .i64 E) ∧ Below W.heap.size W w')) :
    Calls Try.prog 17 #[.int .i64 k, .int .i64 d, .int .i64 y, .int .i64 at_] w fun e w' => e = .returned (.tuple #[.agg #[.int .i64 0, .int .i64 0, .int .i64 0, .int .i64 0, .int .u32 0, .int .u64 0, .int .u32 0, .int .i64 0, .int .i64 0, .slice none 0 0, .slice none 0 0], .int .i64 E]) ∧ Below w.heap.size w w' := by
  have b0 : decide (at_ < 0) = false := by simpa using h0
  have b1 : decide ((n : Int) < at_) = false := by simpa using h1
  clear h0 h1
  go_enter Try.func17, Try.ntmps17
  refine wp_seq_k fun K hK => ?_
  have HK := TW.hide hK
  clear hK
  go_wp2
  refine HK.out _ _ ?_
  clear HK K
  have n0 := heap_alloc_new w (.cells #[.int .i64 0, .int .i64 0, .int .i64 0, .int .i64 0, .int .u32 0, .int .u64 0, .int .u32 0, .int .i64 0, .int .i64 0, .slice none 0 0, .slice none 0 0] 47)
  have hb := (Below.refl w.heap.size w).alloc (Nat.le_refl _) (.cells #[.int .i64 0, .int .i64 0, .int .i64 0, .int .i64 0, .int .u32 0, .int .u64 0, .int .u32 0, .int .i64 0, .int .i64 0, .slice none 0 0, .slice none 0 0] 47)
  generalize w.alloc _ = W at n0 hb ⊢
  have hE := blk_lt n0
  have HN := TW.hide n0
  have HB := TW.hide hb
  clear n0 hb
  go_wp2_with fail
  refine (HC.out _).mono ?_
  rintro e w1 ⟨rfl, hb1⟩
  have N1 := TW.hide (blk_keep HN.out hb1)
  have B1 : Hid (Below w.heap.size w w1) := below_row HB.out hb1 (by omega)
  clear hb1 HN HB
  go_wp2_with fail
  refine (HL.out _).mono ?_
  rintro e w2 ⟨rfl, hb2⟩
  have N2 := TW.hide (blk_keep N1.out hb2)
  have B2 : Hid (Below w.heap.size w w2) := below_row B1.out hb2 B1.out.size
  clear hb2 N1 B1
  go_wp2_with fail
  refine (HP.out _).mono ?_
  rintro e w3 ⟨rfl, hb3⟩
  have N3 := TW.hide (blk_alloc (o' := .cells #[.int .i64 0, .int .i64 0, .int .i64 0, .int .i64 0, .int .u32 0, .int .u64 0, .int .u32 0, .int .i64 0, .int .i64 0, .slice none 0 0, .slice none 0 0] 47) (blk_keep N2.out hb3))
  have B3 : Hid (Below w.heap.size w w3) := below_row B2.out hb3 B2.out.size
  have hl3 : w.heap.size < w3.heap.size := blk_lt (blk_keep N2.out hb3)
  clear hb3 N2 B2
  have A3 := TW.hide (heap_alloc_new w3 (.cells #[.int .i64 0, .int .i64 0, .int .i64 0, .int .i64 0, .int .u32 0, .int .u64 0, .int .u32 0, .int .i64 0, .int .i64 0, .slice none 0 0, .slice none 0 0] 47))
  have B3a : Hid (Below w.heap.size w (w3.alloc (.cells #[.int .i64 0, .int .i64 0, .int .i64 0, .int .i64 0, .int .u32 0, .int .u64 0, .int .u32 0, .int .i64 0, .int .i64 0, .slice none 0 0, .slice none 0 0] 47))) := B3.out.alloc B3.out.size _
  have A4 := TW.hide (setRow_heap _ _ _ #[.int .i64 d, .int .i64 y, .int .i64 n, .int .i64 2, .int .u32 0, .int .u64 of, .int .u32 0, .int .i64 nd, .int .i64 m, .slice none 0 0, .slice none 0 0] _ _ A3.out)
  have N4 : Hid (((w3.alloc (.cells #[.int .i64 0, .int .i64 0, .int .i64 0, .int .i64 0, .int .u32 0, .int .u64 0, .int .u32 0, .int .i64 0, .int .i64 0, .slice none 0 0, .slice none 0 0] 47)).setRow w3.heap.size #[.int .i64 d, .int .i64 y, .int .i64 n, .int .i64 2, .int .u32 0, .int .u64 of, .int .u32 0, .int .i64 nd, .int .i64 m, .slice none 0 0, .slice none 0 0]).heap[w.heap.size]? = some (.cells #[.int .i64 0, .int .i64 0, .int .i64 0, .int .i64 0, .int .u32 0, .int .u64 0, .int .u32 0, .int .i64 0, .int .i64 0, .slice none 0 0, .slice none 0 0] 47 (0, 0))) := by show _ = _; rw [setRow_other _ _ _ _ (by omega)]; exact N3.out
  have B4 := TW.hide (below_setRow (cs := #[.int .i64 d, .int .i64 y, .int .i64 n, .int .i64 2, .int .u32 0, .int .u64 of, .int .u32 0, .int .i64 nd, .int .i64 m, .slice none 0 0, .slice none 0 0]) B3a.out (g := w3.heap.size) (by omega))
  have hs4 : ((w3.alloc (.cells #[.int .i64 0, .int .i64 0, .int .i64 0, .int .i64 0, .int .u32 0, .int .u64 0, .int .u32 0, .int .i64 0, .int .i64 0, .slice none 0 0, .slice none 0 0] 47)).setRow w3.heap.size #[.int .i64 d, .int .i64 y, .int .i64 n, .int .i64 2, .int .u32 0, .int .u64 of, .int .u32 0, .int .i64 nd, .int .i64 m, .slice none 0 0, .slice none 0 0]).heap.size = w3.heap.size + 1 := by simp [World.setRow]
  obtain ⟨q0, q1, q2, q3, q4, q5, q6, q7, q8, q9, q10, f0, f1, f2, f3, f4, f5, f6, f7, f8, f9, f10⟩ := cells11 A4.out
  clear f0 f1 f2 f3 f4 f5 f6 f7 f8 f9 f10
  go_wp2_with (first | (refine wpList_store_row (by rfl) 47 _ _ (by rfl) w3.heap.size #[.int .i64 d, .int .i64 y, .int .i64 n, .int .i64 2, .int .u32 0, .int .u64 of, .int .u32 0, .int .i64 nd, .int .i64 m, .slice none 0 0, .slice none 0 0] (by rfl) (by rfl) 47 _ A3.out (by kernel_rfl) (by rfl) (by simp [Value.oneCell']) ?_) | (refine wpList_val (.agg #[.int .i64 d, .int .i64 y, .int .i64 n, .int .i64 2, .int .u32 0, .int .u64 of, .int .u32 0, .int .i64 nd, .int .i64 m, .slice none 0 0, .slice none 0 0]) (by rfl) (exec_load_row' 47 _ (by rfl) w3.heap.size (by rfl) 47 #[.int .i64 d, .int .i64 y, .int .i64 n, .int .i64 2, .int .u32 0, .int .u64 of, .int .u32 0, .int .i64 nd, .int .i64 m, .slice none 0 0, .slice none 0 0] (0, 0) _ A4.out Try.underlying47 rfl (by kernel_rfl)) ?_))
  generalize hgg : w3.heap.size = g at *
  generalize (w3.alloc (.cells #[.int .i64 0, .int .i64 0, .int .i64 0, .int .i64 0, .int .u32 0, .int .u64 0, .int .u32 0, .int .i64 0, .int .i64 0, .slice none 0 0, .slice none 0 0] 47)).setRow g #[.int .i64 d, .int .i64 y, .int .i64 n, .int .i64 2, .int .u32 0, .int .u64 of, .int .u32 0, .int .i64 nd, .int .i64 m, .slice none 0 0, .slice none 0 0] = X at *
  refine (HE.out _).mono ?_
  rintro e w5 ⟨rfl, hb5⟩
  have A5 := blk_keep A4.out hb5
  have N5 := TW.hide (blk_keep N4.out hb5)
  have B5 : Hid (Below w.heap.size w w5) := below_row B4.out hb5 B4.out.size
  clear hb5 A4 N4 B4 A3 N3 B3 B3a hs4 hgg q0 q1 q2 q3 q4 q5 q6 q7 q8 q9 q10
  have hne : (E != 0) = true := by simp [hE0]
  clear hE0 A5
  go_wp2_with (first | (refine wpList_store_row (by rfl) 47 _ _ (by rfl) w.heap.size #[.int .i64 0, .int .i64 0, .int .i64 0, .int .i64 0, .int .u32 0, .int .u64 0, .int .u32 0, .int .i64 0, .int .i64 0, .slice none 0 0, .slice none 0 0] (by rfl) (by rfl) 47 _ N5.out (by kernel_rfl) (by rfl) (by simp [Value.oneCell']) ?_))
  have hN9 := setRow_heap _ _ _ #[.int .i64 0, .int .i64 0, .int .i64 0, .int .i64 0, .int .u32 0, .int .u64 0, .int .u32 0, .int .i64 0, .int .i64 0, .slice none 0 0, .slice none 0 0] _ _ N5.out
  have hB9 := below_setRow (cs := #[.int .i64 0, .int .i64 0, .int .i64 0, .int .i64 0, .int .u32 0, .int .u64 0, .int .u32 0, .int .i64 0, .int .i64 0, .slice none 0 0, .slice none 0 0]) B5.out (g := w.heap.size) (by omega)
  generalize w5.setRow _ _ = X9 at hN9 hB9 ⊢
  refine bodyPost_ret (v := .tuple #[.agg #[.int .i64 0, .int .i64 0, .int .i64 0, .int .i64 0, .int .u32 0, .int .u64 0, .int .u32 0, .int .i64 0, .int .i64 0, .slice none 0 0, .slice none 0 0], .int .i64 E]) (results_row_tmp (P := Try.prog) Try.results17 _ _ w.heap.size 47 _ (0, 0) _ _ rfl rfl hN9 Try.underlying47 rfl (by kernel_rfl)) rfl ⟨rfl, ?_⟩
  exact hB9
end LW
end Go.Proofs.Ythbakhgfnfdahaa
