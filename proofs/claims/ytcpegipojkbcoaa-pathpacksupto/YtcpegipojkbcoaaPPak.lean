/-
  What Pack of the program gives.
-/
import Derived.Test.YtcpegipojkbcoaaPFitA
import Derived.Test.YtcpegipojkbcoaaPacksW
namespace Go.Proofs.Ytcpegipojkbcoaa
open Go.RowKit
set_option linter.unusedVariables false
set_option linter.unusedSimpArgs false
namespace LW
open Words
set_option maxRecDepth 100000 in
set_option maxHeartbeats 2000000 in
theorem ppackE (T : Tr) (n l : Nat) (a : Option Addr) (sl c : Nat) (E : Int) (hE : E ≠ 0) (H : ∀ W, Calls Try.prog 14 #[.agg (trC T), .int .u64 n, .int .u64 l] W fun e w' => e = .returned (.tuple #[.agg #[.int .i64 0, .int .i64 0, .int .i64 0, .int .i64 0, .int .u32 0, .int .i64 0, .slice none 0 0, .slice none 0 0, .slice none 0 0, .int .u64 0, .int .i64 0, .int .u64 0, .int .u64 0, .int .u64 0, .bool false, .bool false, .slice none 0 0], .int .i64 E]) ∧ Below W.heap.size W w') (w : World) : Calls Try.prog 8 #[.agg (trC T), .agg #[.int .u64 n, .int .u64 l, .slice a sl c]] w fun e w' => e = .returned (.tuple #[.slice none 0 0, .int .i64 E]) ∧ Below w.heap.size w w' := by
  replace H := TW.hide H
  unfold trC at *
  have n0 := heap_alloc_new w (.cells #[.int .i64 T.k, .int .i64 T.d, .int .i64 T.f, .int .i64 T.dp, .int .u32 T.lf, .int .i64 T.inn, .slice T.ka T.kl T.kc, .slice T.sa T.sl T.sc, .slice T.pa T.pl T.pc] 26)
  have hb0 := (Below.refl w.heap.size w).alloc (Nat.le_refl _) (.cells #[.int .i64 T.k, .int .i64 T.d, .int .i64 T.f, .int .i64 T.dp, .int .u32 T.lf, .int .i64 T.inn, .slice T.ka T.kl T.kc, .slice T.sa T.sl T.sc, .slice T.pa T.pl T.pc] 26)
  have n1 := heap_alloc_new (w.alloc (.cells #[.int .i64 T.k, .int .i64 T.d, .int .i64 T.f, .int .i64 T.dp, .int .u32 T.lf, .int .i64 T.inn, .slice T.ka T.kl T.kc, .slice T.sa T.sl T.sc, .slice T.pa T.pl T.pc] 26)) (.cells #[.int .u64 n, .int .u64 l, .slice a sl c] 37)
  rw [show (w.alloc (.cells #[.int .i64 T.k, .int .i64 T.d, .int .i64 T.f, .int .i64 T.dp, .int .u32 T.lf, .int .i64 T.inn, .slice T.ka T.kl T.kc, .slice T.sa T.sl T.sc, .slice T.pa T.pl T.pc] 26)).heap.size = w.heap.size + 1 by simp] at n1
  have n0 := blk_alloc (o' := .cells #[.int .u64 n, .int .u64 l, .slice a sl c] 37) n0
  have hb1 := hb0.alloc hb0.size (.cells #[.int .u64 n, .int .u64 l, .slice a sl c] 37)
  have N0 := TW.hide n0
  have N1 := TW.hide n1
  have NB := TW.hide hb1
  clear n0 n1 hb0 hb1
  go_enter Try.func8, Try.ntmps8
  refine wp_seq_k fun K hK => ?_
  have HK := TW.hide hK
  clear hK
  go_wp2_with fail
  refine HK.out _ _ ?_
  clear HK K
  generalize (w.alloc _).alloc _ = X at *
  obtain ⟨c0, c1, c2, c3, c4, c5, c6, c7, c8⟩ := cells9 N0.out
  obtain ⟨d0, d1, d2⟩ := cellsP3 N1.out
  refine wp_seq_k fun K hK => ?_
  have HK := TW.hide hK
  clear hK
  go_wp2_with fail
  refine (H.out _).mono ?_
  rintro e1 w1 ⟨rfl, hb⟩
  clear c0 c1 c2 c3 c4 c5 c6 c7 c8 d0 d1 d2 H
  have hA : Below w1.heap.size w1 (((w1).alloc (.cells #[.int .i64 0, .int .i64 0, .int .i64 0, .int .i64 0, .int .u32 0, .int .i64 0, .slice none 0 0, .slice none 0 0, .slice none 0 0, .int .u64 0, .int .i64 0, .int .u64 0, .int .u64 0, .int .u64 0, .bool false, .bool false, .slice none 0 0] 53)).setRow w1.heap.size #[.int .i64 0, .int .i64 0, .int .i64 0, .int .i64 0, .int .u32 0, .int .i64 0, .slice none 0 0, .slice none 0 0, .slice none 0 0, .int .u64 0, .int .i64 0, .int .u64 0, .int .u64 0, .int .u64 0, .bool false, .bool false, .slice none 0 0]) := below_setRow ((Below.refl _ _).alloc (Nat.le_refl _) _) (Nat.le_refl _)
  have NW : Hid ((((w1).alloc (.cells #[.int .i64 0, .int .i64 0, .int .i64 0, .int .i64 0, .int .u32 0, .int .i64 0, .slice none 0 0, .slice none 0 0, .slice none 0 0, .int .u64 0, .int .i64 0, .int .u64 0, .int .u64 0, .int .u64 0, .bool false, .bool false, .slice none 0 0] 53)).setRow w1.heap.size #[.int .i64 0, .int .i64 0, .int .i64 0, .int .i64 0, .int .u32 0, .int .i64 0, .slice none 0 0, .slice none 0 0, .slice none 0 0, .int .u64 0, .int .i64 0, .int .u64 0, .int .u64 0, .int .u64 0, .bool false, .bool false, .slice none 0 0]).heap[w1.heap.size]? = some (.cells #[.int .i64 0, .int .i64 0, .int .i64 0, .int .i64 0, .int .u32 0, .int .i64 0, .slice none 0 0, .slice none 0 0, .slice none 0 0, .int .u64 0, .int .i64 0, .int .u64 0, .int .u64 0, .int .u64 0, .bool false, .bool false, .slice none 0 0] 53 (0, 0))) := setRow_heap _ _ _ _ _ _ (heap_alloc_new w1 _)
  have NB1 : Hid (Below w.heap.size w (((w1).alloc (.cells #[.int .i64 0, .int .i64 0, .int .i64 0, .int .i64 0, .int .u32 0, .int .i64 0, .slice none 0 0, .slice none 0 0, .slice none 0 0, .int .u64 0, .int .i64 0, .int .u64 0, .int .u64 0, .int .u64 0, .bool false, .bool false, .slice none 0 0] 53)).setRow w1.heap.size #[.int .i64 0, .int .i64 0, .int .i64 0, .int .i64 0, .int .u32 0, .int .i64 0, .slice none 0 0, .slice none 0 0, .slice none 0 0, .int .u64 0, .int .i64 0, .int .u64 0, .int .u64 0, .int .u64 0, .bool false, .bool false, .slice none 0 0])) := (NB.out.trans (hb.mono NB.out.size)).trans (hA.mono (NB.out.trans (hb.mono NB.out.size)).size)
  clear N0 N1 NB hb hA NW
  go_wp2_with (refine wpList_store_row (by rfl) 53 _ _ (by rfl) w1.heap.size #[.int .i64 0, .int .i64 0, .int .i64 0, .int .i64 0, .int .u32 0, .int .i64 0, .slice none 0 0, .slice none 0 0, .slice none 0 0, .int .u64 0, .int .i64 0, .int .u64 0, .int .u64 0, .int .u64 0, .bool false, .bool false, .slice none 0 0] (by rfl) (by rfl) 53 _ (heap_alloc_new w1 _) (by kernel_rfl) (by rfl) (by simp [Value.oneCell']) ?_)
  refine HK.out _ _ ?_
  clear HK K
  generalize World.setRow _ _ _ = V at *
  have hE' : (E != 0) = true := by simp [hE]
  go_wp2
  go_ret2
  exact ⟨rfl, NB1.out⟩
set_option maxRecDepth 100000 in
set_option maxHeartbeats 2000000 in
theorem ppackN (T : Tr) (n l : Nat) (a : Option Addr) (sl c k : Nat) (w : World) (H : ∀ W, Calls Try.prog 14 #[.agg (trC T), .int .u64 n, .int .u64 l] W fun e w' => ∃ (s0 s1 s2 s3 : Int) (s4 s5 : Bool) (g cap : Nat), e = .returned (.tuple #[.agg #[.int .i64 T.k, .int .i64 T.d, .int .i64 T.f, .int .i64 T.dp, .int .u32 T.lf, .int .i64 T.inn, .slice T.ka T.kl T.kc, .slice T.sa T.sl T.sc, .slice T.pa T.pl T.pc, .int .u64 n, .int .i64 s0, .int .u64 s1, .int .u64 s2, .int .u64 s3, .bool s4, .bool s5, .slice (some ⟨g, 0, none⟩) k cap], .int .i64 0]) ∧ Hid (Below w.heap.size w W → ∀ W2, Below w'.heap.size w' W2 → Calls Try.prog 18 #[.agg #[.int .i64 T.k, .int .i64 T.d, .int .i64 T.f, .int .i64 T.dp, .int .u32 T.lf, .int .i64 T.inn, .slice T.ka T.kl T.kc, .slice T.sa T.sl T.sc, .slice T.pa T.pl T.pc, .int .u64 n, .int .i64 s0, .int .u64 s1, .int .u64 s2, .int .u64 s3, .bool s4, .bool s5, .slice (some ⟨g, 0, none⟩) k cap], .slice a sl c] W2 fun e w' => e = .returned (.bool false) ∧ Below W2.heap.size W2 w') ∧ Below W.heap.size W w') : Calls Try.prog 8 #[.agg (trC T), .agg #[.int .u64 n, .int .u64 l, .slice a sl c]] w fun e w' => e = .returned (.tuple #[.slice none 0 0, .int .i64 4]) ∧ Below w.heap.size w w' := by
  replace H := TW.hide H
  unfold trC at *
  have n0 := heap_alloc_new w (.cells #[.int .i64 T.k, .int .i64 T.d, .int .i64 T.f, .int .i64 T.dp, .int .u32 T.lf, .int .i64 T.inn, .slice T.ka T.kl T.kc, .slice T.sa T.sl T.sc, .slice T.pa T.pl T.pc] 26)
  have hb0 := (Below.refl w.heap.size w).alloc (Nat.le_refl _) (.cells #[.int .i64 T.k, .int .i64 T.d, .int .i64 T.f, .int .i64 T.dp, .int .u32 T.lf, .int .i64 T.inn, .slice T.ka T.kl T.kc, .slice T.sa T.sl T.sc, .slice T.pa T.pl T.pc] 26)
  have n1 := heap_alloc_new (w.alloc (.cells #[.int .i64 T.k, .int .i64 T.d, .int .i64 T.f, .int .i64 T.dp, .int .u32 T.lf, .int .i64 T.inn, .slice T.ka T.kl T.kc, .slice T.sa T.sl T.sc, .slice T.pa T.pl T.pc] 26)) (.cells #[.int .u64 n, .int .u64 l, .slice a sl c] 37)
  rw [show (w.alloc (.cells #[.int .i64 T.k, .int .i64 T.d, .int .i64 T.f, .int .i64 T.dp, .int .u32 T.lf, .int .i64 T.inn, .slice T.ka T.kl T.kc, .slice T.sa T.sl T.sc, .slice T.pa T.pl T.pc] 26)).heap.size = w.heap.size + 1 by simp] at n1
  have n0 := blk_alloc (o' := .cells #[.int .u64 n, .int .u64 l, .slice a sl c] 37) n0
  have hb1 := hb0.alloc hb0.size (.cells #[.int .u64 n, .int .u64 l, .slice a sl c] 37)
  have N0 := TW.hide n0
  have N1 := TW.hide n1
  have NB := TW.hide hb1
  clear n0 n1 hb0 hb1
  go_enter Try.func8, Try.ntmps8
  refine wp_seq_k fun K hK => ?_
  have HK := TW.hide hK
  clear hK
  go_wp2_with fail
  refine HK.out _ _ ?_
  clear HK K
  generalize (w.alloc _).alloc _ = X at *
  obtain ⟨c0, c1, c2, c3, c4, c5, c6, c7, c8⟩ := cells9 N0.out
  obtain ⟨d0, d1, d2⟩ := cellsP3 N1.out
  refine wp_seq_k fun K hK => ?_
  have HK := TW.hide hK
  clear hK
  go_wp2_with fail
  refine (H.out _).mono ?_
  rintro e1 w1 ⟨s0, s1, s2, s3, s4, s5, g, cap, rfl, hf, hb⟩
  have HFt : Hid (∀ W2, Below w1.heap.size w1 W2 → _) := hf.out NB.out
  clear hf c0 c1 c2 c3 c4 c5 c6 c7 c8 d0 d1 d2 H
  have hA : Below w1.heap.size w1 (((w1).alloc (.cells #[.int .i64 0, .int .i64 0, .int .i64 0, .int .i64 0, .int .u32 0, .int .i64 0, .slice none 0 0, .slice none 0 0, .slice none 0 0, .int .u64 0, .int .i64 0, .int .u64 0, .int .u64 0, .int .u64 0, .bool false, .bool false, .slice none 0 0] 53)).setRow w1.heap.size #[.int .i64 T.k, .int .i64 T.d, .int .i64 T.f, .int .i64 T.dp, .int .u32 T.lf, .int .i64 T.inn, .slice T.ka T.kl T.kc, .slice T.sa T.sl T.sc, .slice T.pa T.pl T.pc, .int .u64 n, .int .i64 s0, .int .u64 s1, .int .u64 s2, .int .u64 s3, .bool s4, .bool s5, .slice (some ⟨g, 0, none⟩) k cap]) := below_setRow ((Below.refl _ _).alloc (Nat.le_refl _) _) (Nat.le_refl _)
  have MW : Hid ((((w1).alloc (.cells #[.int .i64 0, .int .i64 0, .int .i64 0, .int .i64 0, .int .u32 0, .int .i64 0, .slice none 0 0, .slice none 0 0, .slice none 0 0, .int .u64 0, .int .i64 0, .int .u64 0, .int .u64 0, .int .u64 0, .bool false, .bool false, .slice none 0 0] 53)).setRow w1.heap.size #[.int .i64 T.k, .int .i64 T.d, .int .i64 T.f, .int .i64 T.dp, .int .u32 T.lf, .int .i64 T.inn, .slice T.ka T.kl T.kc, .slice T.sa T.sl T.sc, .slice T.pa T.pl T.pc, .int .u64 n, .int .i64 s0, .int .u64 s1, .int .u64 s2, .int .u64 s3, .bool s4, .bool s5, .slice (some ⟨g, 0, none⟩) k cap]).heap[w1.heap.size]? = some (.cells #[.int .i64 T.k, .int .i64 T.d, .int .i64 T.f, .int .i64 T.dp, .int .u32 T.lf, .int .i64 T.inn, .slice T.ka T.kl T.kc, .slice T.sa T.sl T.sc, .slice T.pa T.pl T.pc, .int .u64 n, .int .i64 s0, .int .u64 s1, .int .u64 s2, .int .u64 s3, .bool s4, .bool s5, .slice (some ⟨g, 0, none⟩) k cap] 53 (0, 0))) := setRow_heap _ _ _ _ _ _ (heap_alloc_new w1 _)
  have M0 := TW.hide (blk_keep (blk_keep N0.out hb) hA)
  have M1 := TW.hide (blk_keep (blk_keep N1.out hb) hA)
  have MB : Hid (Below w.heap.size w (((w1).alloc (.cells #[.int .i64 0, .int .i64 0, .int .i64 0, .int .i64 0, .int .u32 0, .int .i64 0, .slice none 0 0, .slice none 0 0, .slice none 0 0, .int .u64 0, .int .i64 0, .int .u64 0, .int .u64 0, .int .u64 0, .bool false, .bool false, .slice none 0 0] 53)).setRow w1.heap.size #[.int .i64 T.k, .int .i64 T.d, .int .i64 T.f, .int .i64 T.dp, .int .u32 T.lf, .int .i64 T.inn, .slice T.ka T.kl T.kc, .slice T.sa T.sl T.sc, .slice T.pa T.pl T.pc, .int .u64 n, .int .i64 s0, .int .u64 s1, .int .u64 s2, .int .u64 s3, .bool s4, .bool s5, .slice (some ⟨g, 0, none⟩) k cap])) := (NB.out.trans (hb.mono NB.out.size)).trans (hA.mono (NB.out.trans (hb.mono NB.out.size)).size)
  have MF := TW.hide (HFt.out _ hA)
  clear N0 N1 NB hb hA HFt
  go_wp2_with (refine wpList_store_row (by rfl) 53 _ _ (by rfl) w1.heap.size #[.int .i64 T.k, .int .i64 T.d, .int .i64 T.f, .int .i64 T.dp, .int .u32 T.lf, .int .i64 T.inn, .slice T.ka T.kl T.kc, .slice T.sa T.sl T.sc, .slice T.pa T.pl T.pc, .int .u64 n, .int .i64 s0, .int .u64 s1, .int .u64 s2, .int .u64 s3, .bool s4, .bool s5, .slice (some ⟨g, 0, none⟩) k cap] (by rfl) (by rfl) 53 _ (heap_alloc_new w1 _) (by kernel_rfl) (by rfl) (by simp [Value.oneCell']) ?_)
  refine HK.out _ _ ?_
  clear HK K
  generalize World.setRow _ _ _ = V at *
  generalize w1.heap.size = gw at *
  obtain ⟨d0, d1, d2⟩ := cellsP3 M1.out
  go_wp2_with (refine wpList_load_row (by rfl) 53 _ (by rfl) gw (by rfl) 53 #[.int .i64 T.k, .int .i64 T.d, .int .i64 T.f, .int .i64 T.dp, .int .u32 T.lf, .int .i64 T.inn, .slice T.ka T.kl T.kc, .slice T.sa T.sl T.sc, .slice T.pa T.pl T.pc, .int .u64 n, .int .i64 s0, .int .u64 s1, .int .u64 s2, .int .u64 s3, .bool s4, .bool s5, .slice (some ⟨g, 0, none⟩) k cap] (0, 0) _ MW.out Try.underlying53 rfl (by kernel_rfl) ?_)
  refine MF.out.mono ?_
  rintro e2 w2 ⟨rfl, hb⟩
  have NB2 : Hid (Below w.heap.size w w2) := MB.out.trans (hb.mono MB.out.size)
  clear hb
  go_wp2
  go_ret2
  exact ⟨rfl, NB2.out⟩
set_option maxRecDepth 100000 in
set_option maxHeartbeats 4000000 in
theorem ppackOk (T : Tr) (n l : Nat) (a : Option Addr) (sl c k m : Nat) (ss : List Stp) (w : World) (ht : n < 18446744073709551616) (hl : l < 18446744073709551616) (hS : Sts w a ss) (hn : ss.length = sl) (hn2 : sl ≤ 1048576) (hm : 1 ≤ m) (hF : (flA ss).length ≤ 1048576) (hA : ∀ i, i < sl → (∀ r, r < (ss.getD i ([], [])).1.length → ((ss.getD i ([], [])).1.getD r []).length = m) ∧ (∀ r, r < (ss.getD i ([], [])).2.length → ((ss.getD i ([], [])).2.getD r []).length = m) ∧ (ss.getD i ([], [])).1.length ≤ 1048576 ∧ (ss.getD i ([], [])).2.length ≤ 1048576)
    (H : ∀ W, Calls Try.prog 14 #[.agg (trC T), .int .u64 n, .int .u64 l] W fun e w' => ∃ (s0 s1 s2 s3 : Int) (s4 s5 : Bool) (g cap : Nat), e = .returned (.tuple #[.agg #[.int .i64 T.k, .int .i64 T.d, .int .i64 T.f, .int .i64 T.dp, .int .u32 T.lf, .int .i64 T.inn, .slice T.ka T.kl T.kc, .slice T.sa T.sl T.sc, .slice T.pa T.pl T.pc, .int .u64 n, .int .i64 s0, .int .u64 s1, .int .u64 s2, .int .u64 s3, .bool s4, .bool s5, .slice (some ⟨g, 0, none⟩) k cap], .int .i64 0]) ∧ Hid (Below w.heap.size w W → ∀ W2, Below w'.heap.size w' W2 → Calls Try.prog 18 #[.agg #[.int .i64 T.k, .int .i64 T.d, .int .i64 T.f, .int .i64 T.dp, .int .u32 T.lf, .int .i64 T.inn, .slice T.ka T.kl T.kc, .slice T.sa T.sl T.sc, .slice T.pa T.pl T.pc, .int .u64 n, .int .i64 s0, .int .u64 s1, .int .u64 s2, .int .u64 s3, .bool s4, .bool s5, .slice (some ⟨g, 0, none⟩) k cap], .slice a sl c] W2 fun e w' => e = .returned (.bool true) ∧ Below W2.heap.size W2 w') ∧ Below W.heap.size W w') : Calls Try.prog 8 #[.agg (trC T), .agg #[.int .u64 n, .int .u64 l, .slice a sl c]] w fun e w' => ∃ v, e = .returned (.tuple #[v, .int .i64 0]) ∧ w'.ownsRow w.heap.size 5 1 v (un n 8 ++ un l 8 ++ flA ss).length (vs (un n 8 ++ un l 8 ++ flA ss)) ∧ Below w.heap.size w w' := by
  replace H := TW.hide H
  have HSt : Hid (∀ (W : World) (i : Nat), Below w.heap.size w W → i < sl → ∃ b off A K A' K', a = some ⟨b, off, none⟩ ∧ W.cell? ⟨b, off + i * 2, none⟩ = some (.slice A (ss.getD i ([], [])).1.length K) ∧ W.cell? ⟨b, off + i * 2 + 1, none⟩ = some (.slice A' (ss.getD i ([], [])).2.length K') ∧ Ls w A (ss.getD i ([], [])).1 ∧ Ls w A' (ss.getD i ([], [])).2) := by
    intro W i hb hi
    rcases hS with h | ⟨b, off, e, hc⟩
    · rw [h] at hn; simp at hn; omega
    · obtain ⟨A, K, A', K', h1, h2, h3, h4⟩ := hc i (by omega)
      exact ⟨b, off, A, K, A', K', e, keepC hb h1, keepC hb h2, h3, h4⟩
  have HA := TW.hide hA
  have HF := TW.hide hF
  have HN := TW.hide hn
  have HM1 := TW.hide hm
  have HST := TW.hide (fun W => store64O (n : Int) W (by omega) (by omega))
  have HSL := TW.hide (fun W => store64O (l : Int) W (by omega) (by omega))
  have HU1 : Hid ((un (n : Int) 8).length = 8) := un_length _ _
  have HU2 : Hid ((un (l : Int) 8).length = 8) := un_length _ _
  generalize un (n : Int) 8 = ut at *
  generalize un (l : Int) 8 = ul at *
  obtain ⟨i5, hi5, hz50, hz51, hz52⟩ := info_parts info5
  clear hA hF hn hS hm
  unfold trC at *
  have n0 := heap_alloc_new w (.cells #[.int .i64 T.k, .int .i64 T.d, .int .i64 T.f, .int .i64 T.dp, .int .u32 T.lf, .int .i64 T.inn, .slice T.ka T.kl T.kc, .slice T.sa T.sl T.sc, .slice T.pa T.pl T.pc] 26)
  have hb0 := (Below.refl w.heap.size w).alloc (Nat.le_refl _) (.cells #[.int .i64 T.k, .int .i64 T.d, .int .i64 T.f, .int .i64 T.dp, .int .u32 T.lf, .int .i64 T.inn, .slice T.ka T.kl T.kc, .slice T.sa T.sl T.sc, .slice T.pa T.pl T.pc] 26)
  have n1 := heap_alloc_new (w.alloc (.cells #[.int .i64 T.k, .int .i64 T.d, .int .i64 T.f, .int .i64 T.dp, .int .u32 T.lf, .int .i64 T.inn, .slice T.ka T.kl T.kc, .slice T.sa T.sl T.sc, .slice T.pa T.pl T.pc] 26)) (.cells #[.int .u64 n, .int .u64 l, .slice a sl c] 37)
  rw [show (w.alloc (.cells #[.int .i64 T.k, .int .i64 T.d, .int .i64 T.f, .int .i64 T.dp, .int .u32 T.lf, .int .i64 T.inn, .slice T.ka T.kl T.kc, .slice T.sa T.sl T.sc, .slice T.pa T.pl T.pc] 26)).heap.size = w.heap.size + 1 by simp] at n1
  have n0 := blk_alloc (o' := .cells #[.int .u64 n, .int .u64 l, .slice a sl c] 37) n0
  have hb1 := hb0.alloc hb0.size (.cells #[.int .u64 n, .int .u64 l, .slice a sl c] 37)
  have N0 := TW.hide n0
  have N1 := TW.hide n1
  have NB := TW.hide hb1
  clear n0 n1 hb0 hb1
  go_enter Try.func8, Try.ntmps8
  refine wp_seq_k fun K hK => ?_
  have HK := TW.hide hK
  clear hK
  go_wp2_with fail
  refine HK.out _ _ ?_
  clear HK K
  generalize (w.alloc _).alloc _ = X at *
  obtain ⟨c0, c1, c2, c3, c4, c5, c6, c7, c8⟩ := cells9 N0.out
  obtain ⟨d0, d1, d2⟩ := cellsP3 N1.out
  refine wp_seq_k fun K hK => ?_
  have HK := TW.hide hK
  clear hK
  go_wp2_with fail
  refine (H.out _).mono ?_
  rintro e1 w1 ⟨s0, s1, s2, s3, s4, s5, g, cap, rfl, hf, hb⟩
  have HFt : Hid (∀ W2, Below w1.heap.size w1 W2 → _) := hf.out NB.out
  clear hf c0 c1 c2 c3 c4 c5 c6 c7 c8 d0 d1 d2 H
  have hA : Below w1.heap.size w1 (((w1).alloc (.cells #[.int .i64 0, .int .i64 0, .int .i64 0, .int .i64 0, .int .u32 0, .int .i64 0, .slice none 0 0, .slice none 0 0, .slice none 0 0, .int .u64 0, .int .i64 0, .int .u64 0, .int .u64 0, .int .u64 0, .bool false, .bool false, .slice none 0 0] 53)).setRow w1.heap.size #[.int .i64 T.k, .int .i64 T.d, .int .i64 T.f, .int .i64 T.dp, .int .u32 T.lf, .int .i64 T.inn, .slice T.ka T.kl T.kc, .slice T.sa T.sl T.sc, .slice T.pa T.pl T.pc, .int .u64 n, .int .i64 s0, .int .u64 s1, .int .u64 s2, .int .u64 s3, .bool s4, .bool s5, .slice (some ⟨g, 0, none⟩) k cap]) := below_setRow ((Below.refl _ _).alloc (Nat.le_refl _) _) (Nat.le_refl _)
  have MW : Hid ((((w1).alloc (.cells #[.int .i64 0, .int .i64 0, .int .i64 0, .int .i64 0, .int .u32 0, .int .i64 0, .slice none 0 0, .slice none 0 0, .slice none 0 0, .int .u64 0, .int .i64 0, .int .u64 0, .int .u64 0, .int .u64 0, .bool false, .bool false, .slice none 0 0] 53)).setRow w1.heap.size #[.int .i64 T.k, .int .i64 T.d, .int .i64 T.f, .int .i64 T.dp, .int .u32 T.lf, .int .i64 T.inn, .slice T.ka T.kl T.kc, .slice T.sa T.sl T.sc, .slice T.pa T.pl T.pc, .int .u64 n, .int .i64 s0, .int .u64 s1, .int .u64 s2, .int .u64 s3, .bool s4, .bool s5, .slice (some ⟨g, 0, none⟩) k cap]).heap[w1.heap.size]? = some (.cells #[.int .i64 T.k, .int .i64 T.d, .int .i64 T.f, .int .i64 T.dp, .int .u32 T.lf, .int .i64 T.inn, .slice T.ka T.kl T.kc, .slice T.sa T.sl T.sc, .slice T.pa T.pl T.pc, .int .u64 n, .int .i64 s0, .int .u64 s1, .int .u64 s2, .int .u64 s3, .bool s4, .bool s5, .slice (some ⟨g, 0, none⟩) k cap] 53 (0, 0))) := setRow_heap _ _ _ _ _ _ (heap_alloc_new w1 _)
  have M0 := TW.hide (blk_keep (blk_keep N0.out hb) hA)
  have M1 := TW.hide (blk_keep (blk_keep N1.out hb) hA)
  have MB : Hid (Below w.heap.size w (((w1).alloc (.cells #[.int .i64 0, .int .i64 0, .int .i64 0, .int .i64 0, .int .u32 0, .int .i64 0, .slice none 0 0, .slice none 0 0, .slice none 0 0, .int .u64 0, .int .i64 0, .int .u64 0, .int .u64 0, .int .u64 0, .bool false, .bool false, .slice none 0 0] 53)).setRow w1.heap.size #[.int .i64 T.k, .int .i64 T.d, .int .i64 T.f, .int .i64 T.dp, .int .u32 T.lf, .int .i64 T.inn, .slice T.ka T.kl T.kc, .slice T.sa T.sl T.sc, .slice T.pa T.pl T.pc, .int .u64 n, .int .i64 s0, .int .u64 s1, .int .u64 s2, .int .u64 s3, .bool s4, .bool s5, .slice (some ⟨g, 0, none⟩) k cap])) := (NB.out.trans (hb.mono NB.out.size)).trans (hA.mono (NB.out.trans (hb.mono NB.out.size)).size)
  have MF := TW.hide (HFt.out _ hA)
  clear N0 N1 NB hb hA HFt
  go_wp2_with (refine wpList_store_row (by rfl) 53 _ _ (by rfl) w1.heap.size #[.int .i64 T.k, .int .i64 T.d, .int .i64 T.f, .int .i64 T.dp, .int .u32 T.lf, .int .i64 T.inn, .slice T.ka T.kl T.kc, .slice T.sa T.sl T.sc, .slice T.pa T.pl T.pc, .int .u64 n, .int .i64 s0, .int .u64 s1, .int .u64 s2, .int .u64 s3, .bool s4, .bool s5, .slice (some ⟨g, 0, none⟩) k cap] (by rfl) (by rfl) 53 _ (heap_alloc_new w1 _) (by kernel_rfl) (by rfl) (by simp [Value.oneCell']) ?_)
  refine HK.out _ _ ?_
  clear HK K
  generalize World.setRow _ _ _ = V at *
  generalize w1.heap.size = gw at *
  obtain ⟨d0, d1, d2⟩ := cellsP3 M1.out
  refine wp_seq_k fun K hK => ?_
  have HK := TW.hide hK
  clear hK
  go_wp2_with (refine wpList_load_row (by rfl) 53 _ (by rfl) gw (by rfl) 53 #[.int .i64 T.k, .int .i64 T.d, .int .i64 T.f, .int .i64 T.dp, .int .u32 T.lf, .int .i64 T.inn, .slice T.ka T.kl T.kc, .slice T.sa T.sl T.sc, .slice T.pa T.pl T.pc, .int .u64 n, .int .i64 s0, .int .u64 s1, .int .u64 s2, .int .u64 s3, .bool s4, .bool s5, .slice (some ⟨g, 0, none⟩) k cap] (0, 0) _ MW.out Try.underlying53 rfl (by kernel_rfl) ?_)
  refine MF.out.mono ?_
  rintro e2 w2 ⟨rfl, hb⟩
  clear d0 d1 d2 MF
  have N1 := TW.hide (blk_keep M1.out hb)
  have NB : Hid (Below w.heap.size w w2) := MB.out.trans (hb.mono MB.out.size)
  clear hb M0 M1 MB MW
  go_wp2
  refine HK.out _ _ ?_
  clear HK K
  generalize (Value.agg #[.int .i64 T.k, .int .i64 T.d, .int .i64 T.f, .int .i64 T.dp, .int .u32 T.lf, .int .i64 T.inn, .slice T.ka T.kl T.kc, .slice T.sa T.sl T.sc, .slice T.pa T.pl T.pc, .int .u64 n, .int .i64 s0, .int .u64 s1, .int .u64 s2, .int .u64 s3, .bool s4, .bool s5, .slice (some ⟨g, 0, none⟩) k cap]) = q1
  generalize (Value.tuple #[q1, .int .i64 0]) = q2
  generalize (Value.agg #[.int .i64 T.k, .int .i64 T.d, .int .i64 T.f, .int .i64 T.dp, .int .u32 T.lf, .int .i64 T.inn, .slice T.ka T.kl T.kc, .slice T.sa T.sl T.sc, .slice T.pa T.pl T.pc]) = q3
  generalize (Value.agg #[.int .u64 n, .int .u64 l, .slice a sl c]) = q4
  have HX0 : Hid (Below w2.heap.size w2 w2) := Below.refl _ _
  refine wp_seq_k fun K hK => ?_
  have HK := TW.hide hK
  clear hK
  refine wp_region_noPanic ?_
  refine RG.wp_region_L (fun Z => True) (fun Z => Below w2.heap.size w2 Z) [] (by kernel_rfl) ?_
  refine RG.wpL_any fun Ya hY => ?_
  have HTa : Hid (Below w2.heap.size w2 Ya) := by rw [hY]; exact below_drewN HX0.out 1
  clear hY
  refine RG.wpL_take (fuel := 4) (a' := ?Aa) [0, 1, 3, 4] (by kernel_rfl) (by kernel_rfl) (fun _ _ _ _ _ h => h) HTa.out (fun _ => trivial) ?ra ?_
  case ra =>
    refine RG.RunsIf.weak (v := ?_) (by rfl) (by rfl) (fun Z hT => ?_) ?_
    rotate_left
    · go_simp
      rfl
    simp only [Act.put, List.setIfInBounds_toArray, List.set_cons_zero, List.set_cons_succ, List.getElem_toArray, List.getElem_cons_zero, List.getElem_cons_succ]
    refine RG.RunsIf.weak (v := .int .u64 n) (by rfl) (by rfl) (fun Z hT => ?_) ?_
    · obtain ⟨d0, d1, d2⟩ := cellsP3 (blk_keep N1.out hT)
      go_simp
    simp only [Act.put, List.setIfInBounds_toArray, List.set_cons_zero, List.set_cons_succ, List.getElem_toArray, List.getElem_cons_zero, List.getElem_cons_succ]
    refine RG.RunsIf.weak (v := ?_) (by rfl) (by rfl) (fun Z hT => ?_) ?_
    rotate_left
    · go_simp
      rfl
    simp only [Act.put, List.setIfInBounds_toArray, List.set_cons_zero, List.set_cons_succ, List.getElem_toArray, List.getElem_cons_zero, List.getElem_cons_succ]
    refine RG.RunsIf.weak (v := .int .u64 l) (by rfl) (by rfl) (fun Z hT => ?_) ?_
    · obtain ⟨d0, d1, d2⟩ := cellsP3 (blk_keep N1.out hT)
      go_simp
    simp only [Act.put, List.setIfInBounds_toArray, List.set_cons_zero, List.set_cons_succ, List.getElem_toArray, List.getElem_cons_zero, List.getElem_cons_succ]
    exact RG.RunsIf.nil
  refine RG.wpL_step (i := 2) (by kernel_rfl) (by rfl) (by rfl) (fun KX hK => ?_)
  have HK := TW.hide hK
  clear hK
  go_simp
  refine (HST.out _).mono ?_
  rintro ex1 W1 ⟨x3, rfl, ho, hb⟩
  have O1 := TW.hide (ow_base ho HTa.out.size)
  have HT1 : Hid (Below w2.heap.size w2 W1) := HTa.out.trans (hb.mono HTa.out.size)
  refine HK.out _ _ HT1.out (fun _ => trivial) ?_
  clear HK KX hb ho
  try simp only [Act.put, List.setIfInBounds_toArray, List.set_cons_zero, List.set_cons_succ, List.getElem_toArray, List.getElem_cons_zero, List.getElem_cons_succ]
  refine RG.wpL_step (i := 5) (by kernel_rfl) (by rfl) (by rfl) (fun KX hK => ?_)
  have HK := TW.hide hK
  clear hK
  go_simp
  refine (HSL.out _).mono ?_
  rintro ex2 W2 ⟨x4, rfl, ho, hb⟩
  have O2 := TW.hide (ow_base ho HT1.out.size)
  have O1 := TW.hide (ow_below O1.out hb)
  have HT2 : Hid (Below w2.heap.size w2 W2) := HT1.out.trans (hb.mono HT1.out.size)
  refine HK.out _ _ HT2.out (fun _ => trivial) ?_
  clear HK KX hb ho
  try simp only [Act.put, List.setIfInBounds_toArray, List.set_cons_zero, List.set_cons_succ, List.getElem_toArray, List.getElem_cons_zero, List.getElem_cons_succ]
  have I4 : Hid (ApI w w2 W2 x3 ut) := ⟨by rw [HU1.out]; exact ow_base O1.out NB.out.size, NB.out.trans (HT2.out.mono NB.out.size), fun b cs t _ h => blk_keep h HT2.out⟩
  obtain ⟨g4, k4, rfl⟩ := ownsRow_succ O2.out
  have R4 : Hid (Row W2 (some ⟨g4, 0, none⟩) ul) := by
    obtain ⟨a4, k4', e, h, _⟩ := row_of_own (zs := ul) (by rw [HU2.out]; exact O2.out)
    injection e with e1
    rw [e1]
    exact h
  refine RG.wpL_step (i := 6) (by kernel_rfl) (by rfl) (by rfl) (fun KX hK => ?_)
  have HK := TW.hide hK
  clear hK
  refine wp_append_own W2 _ _ 24 (by rfl) w.heap.size 5 i5 (.int .u8 0) 1 1 Try.underlying24 hi5 hz50 hz51 hz52 rfl (by decide) x3 ut.length (vs ut) (by rfl) I4.out.own ⟨g4, 0, none⟩ 8 k4 (vs ul) (by rfl) (by rw [vs_length, HU2.out]) (rowCs R4.out) (onesV ul) (by rw [HU1.out]; unfold maxLen; omega) (by rw [HU1.out]; omega) I4.out.below.size ?_
  intro v5 w5 hown5 hgr5 _
  have I5 := TW.hide (I4.out.app HU2.out hown5 hgr5)
  have HT5 : Hid (Below w2.heap.size w2 w5) := HT2.out.grown hgr5 HT2.out.size (fun k hk => ow_block O1.out k hk)
  refine HK.out _ _ HT5.out (fun _ => trivial) ?_
  clear HK KX hown5 hgr5 I4 R4 O1 O2 HT2 HT1 HTa
  try simp only [Act.put, List.setIfInBounds_toArray, List.set_cons_zero, List.set_cons_succ, List.getElem_toArray, List.getElem_cons_zero, List.getElem_cons_succ]
  refine RG.wpL_take (fuel := 0) (a' := ?Ab) [7] (by kernel_rfl) (by kernel_rfl) (fun _ _ _ _ _ h => h) HT5.out (fun _ => trivial) ?rb ?_
  case rb =>
    refine RG.RunsIf.weak (v := ?_) (by rfl) (by rfl) (fun Z hT => ?_) ?_
    rotate_left
    · go_simp
      rfl
    simp only [Act.put, List.setIfInBounds_toArray, List.set_cons_zero, List.set_cons_succ, List.getElem_toArray, List.getElem_cons_zero, List.getElem_cons_succ]
    exact RG.RunsIf.nil
  refine RG.wpL_done (by kernel_rfl) ?_ _
  refine NoPanic.normal ?_
  go_wp2
  refine HK.out _ _ ?_
  clear HK K
  have HP0 : Hid ((ut ++ ul).length = 16) := by show _ = _; rw [List.length_append, HU1.out, HU2.out]
  obtain ⟨P, hP⟩ : ∃ P, ut ++ ul = P := ⟨_, rfl⟩
  have HPE := TW.hide hP
  rw [hP] at I5 HP0
  clear hP
  obtain ⟨d0, d1, d2⟩ := cellsP3 (I5.out.keep _ _ _ (by decide) N1.out)
  go_wp2
  go_loopw [8, 10, 40] (fun v x i wr => ∃ i' : Nat, i' ≤ sl ∧ i = .int .i64 (i' : Int) ∧ ApI w w2 wr v (P ++ flA (ss.take i'))) (fun v x i wr => sl - (intOf i).toNat)
  case atStart => exact ⟨0, Nat.zero_le _, rfl, by simpa [flA] using I5.out⟩
  case round =>
    obtain ⟨i, hi, rfl, hpk⟩ := hrel
    have HI := TW.hide hpk
    clear hpk I5 d0 d1 d2
    by_cases hlt : i < sl
    · have hiI : (i : Int) < (sl : Int) := by omega
      have hi0 : (0 : Int) ≤ (i : Int) := by omega
      have HLT := TW.hide hlt
      obtain ⟨b, off, A, KA, A', KA', rfl, t1, t2, l1, l2⟩ := HSt.out wr i HI.out.below hlt
      obtain ⟨a1, a2, a3, a4⟩ := HA.out i hlt
      have HSNi := TW.hide (flA_snoc ss i (by rw [HN.out]; exact hlt))
      have hfle := flA_le ss (i + 1)
      rw [HSNi.out, List.length_append, flS, List.length_append] at hfle
      have hfsd : flS (ss.getD i ([], [])) = (ss.getD i ([], [])).1.flatten ++ (ss.getD i ([], [])).2.flatten := rfl
      rw [hfsd] at HSNi
      clear hfsd hlt hi
      generalize (ss.getD i ([], [])).1 = bs at *
      generalize (ss.getD i ([], [])).2 = fs at *
      obtain ⟨L0, hL0⟩ : ∃ L0, P ++ flA (ss.take i) = L0 := ⟨_, rfl⟩
      have HL0 := TW.hide hL0
      have hle0 : L0.length + bs.flatten.length + fs.flatten.length ≤ 2097152 := by
        rw [← hL0, List.length_append, HP0.out]
        have := HF.out
        omega
      rw [hL0] at HI
      clear hL0 hfle
      obtain ⟨nb, hnb⟩ : ∃ nb, bs.length = nb := ⟨_, rfl⟩
      obtain ⟨nf, hnf⟩ : ∃ nf, fs.length = nf := ⟨_, rfl⟩
      rw [hnb] at t1 a1 a3
      rw [hnf] at t2 a2 a4
      have hz := heap_alloc_new wr (.cells #[.slice A nb KA, .slice A' nf KA'] 65)
      have hA1 : Below wr.heap.size wr (wr.alloc (.cells #[.slice A nb KA, .slice A' nf KA'] 65)) := (Below.refl _ _).alloc (Nat.le_refl _) _
      have HI1 := TW.hide (HI.out.step hA1)
      have HZ := TW.hide hz
      obtain ⟨z0, z1⟩ := cellsQ2 hz
      have HC1 := TW.hide (appAll w u8 L0 A nb KA m bs (wr.alloc (.cells #[.slice A nb KA, .slice A' nf KA'] 65)) HI1.out.self l1 hnb a3 HM1.out a1 (by omega))
      have HC2 : Hid (∀ (W : World) (v : Value), ApI w W W v (L0 ++ bs.flatten) → Calls Try.prog 20 #[v, .slice A' nf KA'] W fun e w' => ∃ v', e = .returned v' ∧ ApI w W w' v' (L0 ++ bs.flatten ++ fs.flatten)) := fun W v hv => appAll w v (L0 ++ bs.flatten) A' nf KA' m fs W hv l2 hnf a4 HM1.out a2 (by rw [List.length_append]; omega)
      clear hz hA1 l1 l2 hnb hnf a1 a2 a3 a4 hle0 HI
      have e3 : IntKind.i64.wrap ((i : Int) + 1) = ((i + 1 : Nat) : Int) := by rw [IntKind.wrap_i64]; omega
      go_wp2_with fail
      refine HC1.out.mono ?_
      rintro ea W1 ⟨v1, rfl, hi1⟩
      have HI2 := TW.hide (HI1.out.trans hi1)
      have HS2 := TW.hide (hi1.self)
      have HZ1 := TW.hide (hi1.keep _ _ _ (by decide) HZ.out)
      clear hi1 HI1 z0 z1 HC1 HZ
      obtain ⟨z0, z1⟩ := cellsQ2 HZ1.out
      go_wp2_with fail
      refine (HC2.out _ _ HS2.out).mono ?_
      rintro eb W2 ⟨v2, rfl, hi2⟩
      have HI3 := TW.hide (HI2.out.trans hi2)
      clear hi2 HI2 HS2 z0 z1 HC2 HZ1
      go_wp2
      go_roundw
      case rel =>
        repeat apply Exists.intro
        refine ⟨⟨i + 1, HLT.out, by go_num, ?_⟩, rfl⟩
        rw [HSNi.out, ← List.append_assoc, HL0.out, ← List.append_assoc]
        exact HI3.out
      case measure => simp [intOf]; have := HLT.out; omega
    · obtain rfl : i = sl := by omega
      have HE : Hid (ApI w w2 wr u8 (P ++ flA ss)) := by
        have h := HI.out
        rw [List.take_of_length_le (by rw [HN.out]; exact Nat.le_refl _)] at h
        exact h
      clear HI
      go_wp2
      go_ret2
      rw [HPE.out]
      exact ⟨_, rfl, HE.out.own, HE.out.below⟩
/-- The way, and what fits then tells of it. -/
theorem findFits (T : Tr) (hT : 0 ≤ T.lf ∧ T.lf < 4294967296) (n l : Nat) (hn : n < 18446744073709551616) (a : Option Addr) (c : Nat) (ss : List Stp) (w : World) (hS : Sts w a ss) (hB : SB ss) (hE : waE T n l = 0) (x : Bool) (hx : x = true ↔ pkF T n l ss) (W : World) :
    Calls Try.prog 14 #[.agg (trC T), .int .u64 n, .int .u64 l] W fun e w' => ∃ (s0 s1 s2 s3 : Int) (s4 s5 : Bool) (g cap : Nat), e = .returned (.tuple #[.agg #[.int .i64 T.k, .int .i64 T.d, .int .i64 T.f, .int .i64 T.dp, .int .u32 T.lf, .int .i64 T.inn, .slice T.ka T.kl T.kc, .slice T.sa T.sl T.sc, .slice T.pa T.pl T.pc, .int .u64 n, .int .i64 s0, .int .u64 s1, .int .u64 s2, .int .u64 s3, .bool s4, .bool s5, .slice (some ⟨g, 0, none⟩) ((roL T n).length - 1) cap], .int .i64 0]) ∧ Hid (Below w.heap.size w W → ∀ W2, Below w'.heap.size w' W2 → Calls Try.prog 18 #[.agg #[.int .i64 T.k, .int .i64 T.d, .int .i64 T.f, .int .i64 T.dp, .int .u32 T.lf, .int .i64 T.inn, .slice T.ka T.kl T.kc, .slice T.sa T.sl T.sc, .slice T.pa T.pl T.pc, .int .u64 n, .int .i64 s0, .int .u64 s1, .int .u64 s2, .int .u64 s3, .bool s4, .bool s5, .slice (some ⟨g, 0, none⟩) ((roL T n).length - 1) cap], .slice a ss.length c] W2 fun e w' => e = .returned (.bool x) ∧ Below W2.heap.size W2 w') ∧ Below W.heap.size W w' := by
  rcases waE_cases T n l with ⟨_, hlE, hll⟩ | ⟨h0, _⟩
  · have hR := rwsT hT hn hlE
    refine (findOk_ T hT n hn l hE W).mono ?_
    rintro e w' ⟨s0, s1, s2, s3, s4, s5, g, cap, rfl, _, hf, hb⟩
    refine ⟨s0, s1, s2, s3, s4, s5, g, cap, rfl, ?_, hb⟩
    intro hW W2 h2
    have hw2 : Below w.heap.size w W2 := by
      have h3 := hW.trans (hb.mono hW.size)
      exact h3.trans (h2.mono h3.size)
    refine (pfits T n s0 s1 s2 s3 s4 s5 g _ cap a ss.length c ss _ _ _ W2 (hf.below h2) (by have := hR.most; omega) (fun i hi => step_nums hT hn hE i hi) (hS.below hw2) hB rfl).mono ?_
    rintro e w3 ⟨y, rfl, hy, hb3⟩
    have : y = x := by
      rw [Bool.eq_iff_iff, hy, hx]
      unfold pkF FitP
      constructor
      · rintro ⟨h1, h2⟩; exact ⟨h1, fun i hi => h2 i (by omega)⟩
      · rintro ⟨h1, h2⟩; exact ⟨h1, fun i hi => h2 i (by omega)⟩
    rw [this]
    exact ⟨rfl, hb3⟩
  · exact absurd hE h0
theorem ppack : PPack := by
  intro T hT n l hn hl a c ss w hS hB hF
  unfold PackR
  by_cases hE : waE T n l = 0
  · have hlE : lvE T n = 0 := by
      rcases waE_cases T n l with ⟨_, h, _⟩ | ⟨h0, _⟩
      · exact h
      · exact absurd hE h0
    by_cases hf : pkF T n l ss
    · have hpE : pkE T n l ss = 0 := by unfold pkE; rw [if_pos hE, if_pos hf]
      have hpL : pkL T n l ss = un n 8 ++ un l 8 ++ flA ss := by unfold pkL; rw [if_pos hpE]
      rw [hpE, hpL]
      have hin := vd_inn (lvE_ok hlE)
      refine (ppackOk T n l a ss.length c _ T.inn.toNat ss w hn hl hS rfl hB.1 (by omega) hF (fun i hi => ?_) (findFits T hT n l hn a c ss w hS hB hE true (by simp [hf]))).mono ?_
      · have hfi := hf.2 i (by have := hf.1; omega)
        exact ⟨fun r hr => by have := hfi.2.2.1 r hr; omega, fun r hr => by have := hfi.2.2.2 r hr; omega, (hB.2 i).1.1, (hB.2 i).2.1⟩
      · rintro e w' ⟨v, rfl, ho, hb⟩
        obtain ⟨a', c', rfl, hr, _⟩ := row_of_own ho
        exact ⟨a', c', rfl, hr, hb⟩
    · have hpE : pkE T n l ss = 4 := by unfold pkE; rw [if_pos hE, if_neg hf]
      have hpL : pkL T n l ss = [] := by unfold pkL; rw [if_neg (by rw [hpE]; decide)]
      rw [hpE, hpL]
      refine (ppackN T n l a ss.length c _ w (findFits T hT n l hn a c ss w hS hB hE false (by simp [hf]))).mono ?_
      rintro e w' ⟨rfl, hb⟩
      exact ⟨none, 0, rfl, .inl rfl, hb⟩
  · have hpE : pkE T n l ss = waE T n l := by unfold pkE; rw [if_neg hE]
    have hpL : pkL T n l ss = [] := by unfold pkL; rw [if_neg (by rw [hpE]; exact hE)]
    rw [hpE, hpL]
    refine (ppackE T n l a ss.length c (waE T n l) hE (fun W => findE_ T hT n hn l hE W) w).mono ?_
    rintro e w' ⟨rfl, hb⟩
    exact ⟨none, 0, rfl, .inl rfl, hb⟩
end LW
end Go.Proofs.Ytcpegipojkbcoaa
