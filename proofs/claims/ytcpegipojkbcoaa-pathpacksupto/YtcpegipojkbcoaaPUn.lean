/-
  Unpack: PUnE, PUnK, PUnp in one.
-/
import Derived.Test.YtcpegipojkbcoaaPCHP
import Derived.Test.YtcpegipojkbcoaaPathF
namespace Go.Proofs.Ytcpegipojkbcoaa
open Go.RowKit
set_option linter.unusedVariables false
set_option linter.unusedSimpArgs false
namespace LW
open Words
set_option maxRecDepth 100000 in
set_option maxHeartbeats 2000000 in
theorem punp1 (T : Tr) (a : Option Addr) (zl cap : Nat) (w : World) (E : Int) (hE : E ≠ 0) (HV : ∀ W, Calls Try.prog 23 #[.agg (trC T)] W fun e w' => e = .returned (.int .i64 E) ∧ Below W.heap.size W w') : Calls Try.prog 10 #[.agg (trC T), .slice a zl cap] w (fun e w' => e = .returned (.tuple #[.agg #[.int .u64 0, .int .u64 0, .slice none 0 0], .int .i64 E]) ∧ Below w.heap.size w w') := by
  replace HV := TW.hide HV
  have hE' : (E != 0) = true := by simp [hE]
  unfold trC at *
  have n0 := heap_alloc_new w (.cells #[.int .i64 T.k, .int .i64 T.d, .int .i64 T.f, .int .i64 T.dp, .int .u32 T.lf, .int .i64 T.inn, .slice T.ka T.kl T.kc, .slice T.sa T.sl T.sc, .slice T.pa T.pl T.pc] 26)
  have hb0 := (Below.refl w.heap.size w).alloc (Nat.le_refl _) (.cells #[.int .i64 T.k, .int .i64 T.d, .int .i64 T.f, .int .i64 T.dp, .int .u32 T.lf, .int .i64 T.inn, .slice T.ka T.kl T.kc, .slice T.sa T.sl T.sc, .slice T.pa T.pl T.pc] 26)
  have n1 := heap_alloc_new (w.alloc (.cells #[.int .i64 T.k, .int .i64 T.d, .int .i64 T.f, .int .i64 T.dp, .int .u32 T.lf, .int .i64 T.inn, .slice T.ka T.kl T.kc, .slice T.sa T.sl T.sc, .slice T.pa T.pl T.pc] 26)) (.cells #[.int .u64 0, .int .u64 0, .slice none 0 0] 37)
  rw [show (w.alloc (.cells #[.int .i64 T.k, .int .i64 T.d, .int .i64 T.f, .int .i64 T.dp, .int .u32 T.lf, .int .i64 T.inn, .slice T.ka T.kl T.kc, .slice T.sa T.sl T.sc, .slice T.pa T.pl T.pc] 26)).heap.size = w.heap.size + 1 by simp] at n1
  have n0 := blk_alloc (o' := .cells #[.int .u64 0, .int .u64 0, .slice none 0 0] 37) n0
  have hb1 := hb0.alloc hb0.size (.cells #[.int .u64 0, .int .u64 0, .slice none 0 0] 37)
  have N0 := TW.hide n0
  have N1 := TW.hide n1
  have NB := TW.hide hb1
  clear n0 n1 hb0 hb1
  go_enter Try.func10, Try.ntmps10
  refine wp_seq_k fun K hK => ?_
  have HK := TW.hide hK
  clear hK
  go_wp2_with fail
  refine HK.out _ _ ?_
  clear HK K
  generalize (w.alloc _).alloc _ = X at *
  obtain ⟨c0, c1, c2, c3, c4, c5, c6, c7, c8⟩ := cells9 N0.out
  go_wp2_with fail
  refine (HV.out _).mono ?_
  rintro e1 w1 ⟨rfl, hb⟩
  clear c0 c1 c2 c3 c4 c5 c6 c7 c8
  have N0 := TW.hide (blk_keep N0.out hb)
  have N1 := TW.hide (blk_keep N1.out hb)
  have NB : Hid (Below w.heap.size w w1) := NB.out.trans (hb.mono NB.out.size)
  clear hb
  go_wp2_with (refine wpList_store_row (by rfl) 37 _ _ (by rfl) (w.heap.size + 1) #[.int .u64 0, .int .u64 0, .slice none 0 0] (by rfl) (by rfl) 37 _ N1.out (by kernel_rfl) (by rfl) (by simp [Value.oneCell']) ?_)
  refine bodyPost_ret (v := .tuple #[.agg #[.int .u64 0, .int .u64 0, .slice none 0 0], .int .i64 E]) (results_row_tmp (P := Try.prog) Try.results10 _ _ (w.heap.size + 1) 37 _ (0, 0) _ _ (by rfl) (by rfl) (setRow_heap _ _ _ _ _ _ N1.out) Try.underlying37 rfl (by kernel_rfl)) rfl ?_
  exact ⟨rfl, below_setRow NB.out (by omega)⟩
set_option maxRecDepth 100000 in
set_option maxHeartbeats 2000000 in
theorem punp2 (T : Tr) (a : Option Addr) (zl cap : Nat) (w : World) (hz : zl < 16) (HV : ∀ W, Calls Try.prog 23 #[.agg (trC T)] W fun e w' => e = .returned (.int .i64 0) ∧ Below W.heap.size W w') : Calls Try.prog 10 #[.agg (trC T), .slice a zl cap] w (fun e w' => e = .returned (.tuple #[.agg #[.int .u64 0, .int .u64 0, .slice none 0 0], .int .i64 3]) ∧ Below w.heap.size w w') := by
  replace HV := TW.hide HV
  have k16 : (zl : Int) < 16 := by omega
  unfold trC at *
  have n0 := heap_alloc_new w (.cells #[.int .i64 T.k, .int .i64 T.d, .int .i64 T.f, .int .i64 T.dp, .int .u32 T.lf, .int .i64 T.inn, .slice T.ka T.kl T.kc, .slice T.sa T.sl T.sc, .slice T.pa T.pl T.pc] 26)
  have hb0 := (Below.refl w.heap.size w).alloc (Nat.le_refl _) (.cells #[.int .i64 T.k, .int .i64 T.d, .int .i64 T.f, .int .i64 T.dp, .int .u32 T.lf, .int .i64 T.inn, .slice T.ka T.kl T.kc, .slice T.sa T.sl T.sc, .slice T.pa T.pl T.pc] 26)
  have n1 := heap_alloc_new (w.alloc (.cells #[.int .i64 T.k, .int .i64 T.d, .int .i64 T.f, .int .i64 T.dp, .int .u32 T.lf, .int .i64 T.inn, .slice T.ka T.kl T.kc, .slice T.sa T.sl T.sc, .slice T.pa T.pl T.pc] 26)) (.cells #[.int .u64 0, .int .u64 0, .slice none 0 0] 37)
  rw [show (w.alloc (.cells #[.int .i64 T.k, .int .i64 T.d, .int .i64 T.f, .int .i64 T.dp, .int .u32 T.lf, .int .i64 T.inn, .slice T.ka T.kl T.kc, .slice T.sa T.sl T.sc, .slice T.pa T.pl T.pc] 26)).heap.size = w.heap.size + 1 by simp] at n1
  have n0 := blk_alloc (o' := .cells #[.int .u64 0, .int .u64 0, .slice none 0 0] 37) n0
  have hb1 := hb0.alloc hb0.size (.cells #[.int .u64 0, .int .u64 0, .slice none 0 0] 37)
  have N0 := TW.hide n0
  have N1 := TW.hide n1
  have NB := TW.hide hb1
  clear n0 n1 hb0 hb1
  go_enter Try.func10, Try.ntmps10
  refine wp_seq_k fun K hK => ?_
  have HK := TW.hide hK
  clear hK
  go_wp2_with fail
  refine HK.out _ _ ?_
  clear HK K
  generalize (w.alloc _).alloc _ = X at *
  obtain ⟨c0, c1, c2, c3, c4, c5, c6, c7, c8⟩ := cells9 N0.out
  go_wp2_with fail
  refine (HV.out _).mono ?_
  rintro e1 w1 ⟨rfl, hb⟩
  clear c0 c1 c2 c3 c4 c5 c6 c7 c8
  have N0 := TW.hide (blk_keep N0.out hb)
  have N1 := TW.hide (blk_keep N1.out hb)
  have NB : Hid (Below w.heap.size w w1) := NB.out.trans (hb.mono NB.out.size)
  clear hb
  go_wp2_with (refine wpList_store_row (by rfl) 37 _ _ (by rfl) (w.heap.size + 1) #[.int .u64 0, .int .u64 0, .slice none 0 0] (by rfl) (by rfl) 37 _ N1.out (by kernel_rfl) (by rfl) (by simp [Value.oneCell']) ?_)
  refine bodyPost_ret (v := .tuple #[.agg #[.int .u64 0, .int .u64 0, .slice none 0 0], .int .i64 3]) (results_row_tmp (P := Try.prog) Try.results10 _ _ (w.heap.size + 1) 37 _ (0, 0) _ _ (by rfl) (by rfl) (setRow_heap _ _ _ _ _ _ N1.out) Try.underlying37 rfl (by kernel_rfl)) rfl ?_
  exact ⟨rfl, below_setRow NB.out (by omega)⟩
set_option maxRecDepth 100000 in
set_option maxHeartbeats 2000000 in
theorem punp3 (T : Tr) (b off zl cap : Nat) (w : World) (n l : Nat) (E : Int) (hE : E ≠ 0) (hz : 16 ≤ zl) (HV : ∀ W, Calls Try.prog 23 #[.agg (trC T)] W fun e w' => e = .returned (.int .i64 0) ∧ Below W.heap.size W w') (H0 : ∀ W, Below w.heap.size w W → Calls Try.prog 24 #[.slice (some ⟨b, off, none⟩) zl cap, .int .i64 0] W fun e w' => e = .returned (.tuple #[.int .u64 (n : Int), .int .i64 0]) ∧ W = w') (H8 : ∀ W, Below w.heap.size w W → Calls Try.prog 24 #[.slice (some ⟨b, off, none⟩) zl cap, .int .i64 8] W fun e w' => e = .returned (.tuple #[.int .u64 (l : Int), .int .i64 0]) ∧ W = w') (H : ∀ W, Calls Try.prog 14 #[.agg (trC T), .int .u64 n, .int .u64 l] W fun e w' => e = .returned (.tuple #[.agg #[.int .i64 0, .int .i64 0, .int .i64 0, .int .i64 0, .int .u32 0, .int .i64 0, .slice none 0 0, .slice none 0 0, .slice none 0 0, .int .u64 0, .int .i64 0, .int .u64 0, .int .u64 0, .int .u64 0, .bool false, .bool false, .slice none 0 0], .int .i64 E]) ∧ Below W.heap.size W w') : Calls Try.prog 10 #[.agg (trC T), .slice (some ⟨b, off, none⟩) zl cap] w (fun e w' => e = .returned (.tuple #[.agg #[.int .u64 0, .int .u64 0, .slice none 0 0], .int .i64 E]) ∧ Below w.heap.size w w') := by
  replace HV := TW.hide HV
  replace H0 := TW.hide H0
  replace H8 := TW.hide H8
  have k16 : ¬ (zl : Int) < 16 := by omega
  replace H := TW.hide H
  have hE' : (E != 0) = true := by simp [hE]
  unfold trC at *
  have n0 := heap_alloc_new w (.cells #[.int .i64 T.k, .int .i64 T.d, .int .i64 T.f, .int .i64 T.dp, .int .u32 T.lf, .int .i64 T.inn, .slice T.ka T.kl T.kc, .slice T.sa T.sl T.sc, .slice T.pa T.pl T.pc] 26)
  have hb0 := (Below.refl w.heap.size w).alloc (Nat.le_refl _) (.cells #[.int .i64 T.k, .int .i64 T.d, .int .i64 T.f, .int .i64 T.dp, .int .u32 T.lf, .int .i64 T.inn, .slice T.ka T.kl T.kc, .slice T.sa T.sl T.sc, .slice T.pa T.pl T.pc] 26)
  have n1 := heap_alloc_new (w.alloc (.cells #[.int .i64 T.k, .int .i64 T.d, .int .i64 T.f, .int .i64 T.dp, .int .u32 T.lf, .int .i64 T.inn, .slice T.ka T.kl T.kc, .slice T.sa T.sl T.sc, .slice T.pa T.pl T.pc] 26)) (.cells #[.int .u64 0, .int .u64 0, .slice none 0 0] 37)
  rw [show (w.alloc (.cells #[.int .i64 T.k, .int .i64 T.d, .int .i64 T.f, .int .i64 T.dp, .int .u32 T.lf, .int .i64 T.inn, .slice T.ka T.kl T.kc, .slice T.sa T.sl T.sc, .slice T.pa T.pl T.pc] 26)).heap.size = w.heap.size + 1 by simp] at n1
  have n0 := blk_alloc (o' := .cells #[.int .u64 0, .int .u64 0, .slice none 0 0] 37) n0
  have hb1 := hb0.alloc hb0.size (.cells #[.int .u64 0, .int .u64 0, .slice none 0 0] 37)
  have N0 := TW.hide n0
  have N1 := TW.hide n1
  have NB := TW.hide hb1
  clear n0 n1 hb0 hb1
  go_enter Try.func10, Try.ntmps10
  refine wp_seq_k fun K hK => ?_
  have HK := TW.hide hK
  clear hK
  go_wp2_with fail
  refine HK.out _ _ ?_
  clear HK K
  generalize (w.alloc _).alloc _ = X at *
  refine wp_seq_k fun K hK => ?_
  have HK := TW.hide hK
  clear hK
  obtain ⟨c0, c1, c2, c3, c4, c5, c6, c7, c8⟩ := cells9 N0.out
  go_wp2_with fail
  refine (HV.out _).mono ?_
  rintro e1 w1 ⟨rfl, hb⟩
  clear c0 c1 c2 c3 c4 c5 c6 c7 c8
  have N0 := TW.hide (blk_keep N0.out hb)
  have N1 := TW.hide (blk_keep N1.out hb)
  have NB : Hid (Below w.heap.size w w1) := NB.out.trans (hb.mono NB.out.size)
  clear hb
  go_wp2
  refine HK.out _ _ ?_
  clear HK K
  refine wp_seq_k fun K hK => ?_
  have HK := TW.hide hK
  clear hK
  go_wp2
  refine HK.out _ _ ?_
  clear HK K
  refine wp_seq_k fun K hK => ?_
  have HK := TW.hide hK
  clear hK
  go_wp2_with fail
  refine (H0.out _ NB.out).mono ?_
  rintro ea wa ⟨rfl, rfl⟩
  go_wp2
  refine HK.out _ _ ?_
  clear HK K
  refine wp_seq_k fun K hK => ?_
  have HK := TW.hide hK
  clear hK
  go_wp2_with fail
  refine (H8.out _ NB.out).mono ?_
  rintro eb wb ⟨rfl, rfl⟩
  go_wp2
  refine HK.out _ _ ?_
  clear HK K
  obtain ⟨c0, c1, c2, c3, c4, c5, c6, c7, c8⟩ := cells9 N0.out
  refine wp_seq_k fun K hK => ?_
  have HK := TW.hide hK
  clear hK
  go_wp2_with fail
  refine (H.out _).mono ?_
  rintro e3 w3 ⟨rfl, hb⟩
  clear c0 c1 c2 c3 c4 c5 c6 c7 c8 H
  have hA : Below w3.heap.size w3 (((w3).alloc (.cells #[.int .i64 0, .int .i64 0, .int .i64 0, .int .i64 0, .int .u32 0, .int .i64 0, .slice none 0 0, .slice none 0 0, .slice none 0 0, .int .u64 0, .int .i64 0, .int .u64 0, .int .u64 0, .int .u64 0, .bool false, .bool false, .slice none 0 0] 53)).setRow w3.heap.size #[.int .i64 0, .int .i64 0, .int .i64 0, .int .i64 0, .int .u32 0, .int .i64 0, .slice none 0 0, .slice none 0 0, .slice none 0 0, .int .u64 0, .int .i64 0, .int .u64 0, .int .u64 0, .int .u64 0, .bool false, .bool false, .slice none 0 0]) := below_setRow ((Below.refl _ _).alloc (Nat.le_refl _) _) (Nat.le_refl _)
  have NW : Hid ((((w3).alloc (.cells #[.int .i64 0, .int .i64 0, .int .i64 0, .int .i64 0, .int .u32 0, .int .i64 0, .slice none 0 0, .slice none 0 0, .slice none 0 0, .int .u64 0, .int .i64 0, .int .u64 0, .int .u64 0, .int .u64 0, .bool false, .bool false, .slice none 0 0] 53)).setRow w3.heap.size #[.int .i64 0, .int .i64 0, .int .i64 0, .int .i64 0, .int .u32 0, .int .i64 0, .slice none 0 0, .slice none 0 0, .slice none 0 0, .int .u64 0, .int .i64 0, .int .u64 0, .int .u64 0, .int .u64 0, .bool false, .bool false, .slice none 0 0]).heap[w3.heap.size]? = some (.cells #[.int .i64 0, .int .i64 0, .int .i64 0, .int .i64 0, .int .u32 0, .int .i64 0, .slice none 0 0, .slice none 0 0, .slice none 0 0, .int .u64 0, .int .i64 0, .int .u64 0, .int .u64 0, .int .u64 0, .bool false, .bool false, .slice none 0 0] 53 (0, 0))) := setRow_heap _ _ _ _ _ _ (heap_alloc_new w3 _)
  have N1 := TW.hide (blk_keep (blk_keep N1.out hb) hA)
  have NB : Hid (Below w.heap.size w (((w3).alloc (.cells #[.int .i64 0, .int .i64 0, .int .i64 0, .int .i64 0, .int .u32 0, .int .i64 0, .slice none 0 0, .slice none 0 0, .slice none 0 0, .int .u64 0, .int .i64 0, .int .u64 0, .int .u64 0, .int .u64 0, .bool false, .bool false, .slice none 0 0] 53)).setRow w3.heap.size #[.int .i64 0, .int .i64 0, .int .i64 0, .int .i64 0, .int .u32 0, .int .i64 0, .slice none 0 0, .slice none 0 0, .slice none 0 0, .int .u64 0, .int .i64 0, .int .u64 0, .int .u64 0, .int .u64 0, .bool false, .bool false, .slice none 0 0])) := (NB.out.trans (hb.mono NB.out.size)).trans (hA.mono (NB.out.trans (hb.mono NB.out.size)).size)
  clear hb hA N0 NW
  go_wp2_with (refine wpList_store_row (by rfl) 53 _ _ (by rfl) w3.heap.size #[.int .i64 0, .int .i64 0, .int .i64 0, .int .i64 0, .int .u32 0, .int .i64 0, .slice none 0 0, .slice none 0 0, .slice none 0 0, .int .u64 0, .int .i64 0, .int .u64 0, .int .u64 0, .int .u64 0, .bool false, .bool false, .slice none 0 0] (by rfl) (by rfl) 53 _ (heap_alloc_new w3 _) (by kernel_rfl) (by rfl) (by simp [Value.oneCell']) ?_)
  refine HK.out _ _ ?_
  clear HK K
  generalize World.setRow _ _ _ = V at *
  go_wp2_with (refine wpList_store_row (by rfl) 37 _ _ (by rfl) (w.heap.size + 1) #[.int .u64 0, .int .u64 0, .slice none 0 0] (by rfl) (by rfl) 37 _ N1.out (by kernel_rfl) (by rfl) (by simp [Value.oneCell']) ?_)
  refine bodyPost_ret (v := .tuple #[.agg #[.int .u64 0, .int .u64 0, .slice none 0 0], .int .i64 E]) (results_row_tmp (P := Try.prog) Try.results10 _ _ (w.heap.size + 1) 37 _ (0, 0) _ _ (by rfl) (by rfl) (setRow_heap _ _ _ _ _ _ N1.out) Try.underlying37 rfl (by kernel_rfl)) rfl ?_
  exact ⟨rfl, below_setRow NB.out (by omega)⟩
set_option maxRecDepth 100000 in
set_option maxHeartbeats 2000000 in
theorem punp4 (T : Tr) (b off zl cap : Nat) (w : World) (n l k : Nat) (AW WF WT : Nat → Nat) (E : Int) (hE : E ≠ 0) (hz : 16 ≤ zl) (hc : zl ≤ cap) (HV : ∀ W, Calls Try.prog 23 #[.agg (trC T)] W fun e w' => e = .returned (.int .i64 0) ∧ Below W.heap.size W w') (H0 : ∀ W, Below w.heap.size w W → Calls Try.prog 24 #[.slice (some ⟨b, off, none⟩) zl cap, .int .i64 0] W fun e w' => e = .returned (.tuple #[.int .u64 (n : Int), .int .i64 0]) ∧ W = w') (H8 : ∀ W, Below w.heap.size w W → Calls Try.prog 24 #[.slice (some ⟨b, off, none⟩) zl cap, .int .i64 8] W fun e w' => e = .returned (.tuple #[.int .u64 (l : Int), .int .i64 0]) ∧ W = w') (H : ∀ W, Calls Try.prog 14 #[.agg (trC T), .int .u64 n, .int .u64 l] W fun e w' => ∃ (s0 s1 s2 s3 : Int) (s4 s5 : Bool) (g cp : Nat), e = .returned (.tuple #[.agg #[.int .i64 T.k, .int .i64 T.d, .int .i64 T.f, .int .i64 T.dp, .int .u32 T.lf, .int .i64 T.inn, .slice T.ka T.kl T.kc, .slice T.sa T.sl T.sc, .slice T.pa T.pl T.pc, .int .u64 n, .int .i64 s0, .int .u64 s1, .int .u64 s2, .int .u64 s3, .bool s4, .bool s5, .slice (some ⟨g, 0, none⟩) k cp], .int .i64 0]) ∧ s1 = (l : Int) ∧ Fk w' g k AW WF WT ∧ Below W.heap.size W w') (HH : ∀ (s0 s1 s2 s3 : Int) (s4 s5 : Bool) (g cp : Nat) W, Fk W g k AW WF WT → Calls Try.prog 25 #[.agg #[.int .i64 T.k, .int .i64 T.d, .int .i64 T.f, .int .i64 T.dp, .int .u32 T.lf, .int .i64 T.inn, .slice T.ka T.kl T.kc, .slice T.sa T.sl T.sc, .slice T.pa T.pl T.pc, .int .u64 n, .int .i64 s0, .int .u64 s1, .int .u64 s2, .int .u64 s3, .bool s4, .bool s5, .slice (some ⟨g, 0, none⟩) k cp], .int .i64 ((zl - 16 : Nat) : Int)] W fun e w' => e = .returned (.int .i64 E) ∧ Below W.heap.size W w') : Calls Try.prog 10 #[.agg (trC T), .slice (some ⟨b, off, none⟩) zl cap] w (fun e w' => e = .returned (.tuple #[.agg #[.int .u64 0, .int .u64 0, .slice none 0 0], .int .i64 E]) ∧ Below w.heap.size w w') := by
  replace HV := TW.hide HV
  replace H0 := TW.hide H0
  replace H8 := TW.hide H8
  have k16 : ¬ (zl : Int) < 16 := by omega
  replace H := TW.hide H
  replace HH := TW.hide HH
  have hE' : (E != 0) = true := by simp [hE]
  have k1 : (16 : Int) ≤ (zl : Int) := by omega
  have k2 : (16 : Int) ≤ (cap : Int) := by omega
  have k3 : (zl : Int) ≤ (cap : Int) := by omega
  unfold trC at *
  have n0 := heap_alloc_new w (.cells #[.int .i64 T.k, .int .i64 T.d, .int .i64 T.f, .int .i64 T.dp, .int .u32 T.lf, .int .i64 T.inn, .slice T.ka T.kl T.kc, .slice T.sa T.sl T.sc, .slice T.pa T.pl T.pc] 26)
  have hb0 := (Below.refl w.heap.size w).alloc (Nat.le_refl _) (.cells #[.int .i64 T.k, .int .i64 T.d, .int .i64 T.f, .int .i64 T.dp, .int .u32 T.lf, .int .i64 T.inn, .slice T.ka T.kl T.kc, .slice T.sa T.sl T.sc, .slice T.pa T.pl T.pc] 26)
  have n1 := heap_alloc_new (w.alloc (.cells #[.int .i64 T.k, .int .i64 T.d, .int .i64 T.f, .int .i64 T.dp, .int .u32 T.lf, .int .i64 T.inn, .slice T.ka T.kl T.kc, .slice T.sa T.sl T.sc, .slice T.pa T.pl T.pc] 26)) (.cells #[.int .u64 0, .int .u64 0, .slice none 0 0] 37)
  rw [show (w.alloc (.cells #[.int .i64 T.k, .int .i64 T.d, .int .i64 T.f, .int .i64 T.dp, .int .u32 T.lf, .int .i64 T.inn, .slice T.ka T.kl T.kc, .slice T.sa T.sl T.sc, .slice T.pa T.pl T.pc] 26)).heap.size = w.heap.size + 1 by simp] at n1
  have n0 := blk_alloc (o' := .cells #[.int .u64 0, .int .u64 0, .slice none 0 0] 37) n0
  have hb1 := hb0.alloc hb0.size (.cells #[.int .u64 0, .int .u64 0, .slice none 0 0] 37)
  have N0 := TW.hide n0
  have N1 := TW.hide n1
  have NB := TW.hide hb1
  clear n0 n1 hb0 hb1
  go_enter Try.func10, Try.ntmps10
  refine wp_seq_k fun K hK => ?_
  have HK := TW.hide hK
  clear hK
  go_wp2_with fail
  refine HK.out _ _ ?_
  clear HK K
  generalize (w.alloc _).alloc _ = X at *
  refine wp_seq_k fun K hK => ?_
  have HK := TW.hide hK
  clear hK
  obtain ⟨c0, c1, c2, c3, c4, c5, c6, c7, c8⟩ := cells9 N0.out
  go_wp2_with fail
  refine (HV.out _).mono ?_
  rintro e1 w1 ⟨rfl, hb⟩
  clear c0 c1 c2 c3 c4 c5 c6 c7 c8
  have N0 := TW.hide (blk_keep N0.out hb)
  have N1 := TW.hide (blk_keep N1.out hb)
  have NB : Hid (Below w.heap.size w w1) := NB.out.trans (hb.mono NB.out.size)
  clear hb
  go_wp2
  refine HK.out _ _ ?_
  clear HK K
  refine wp_seq_k fun K hK => ?_
  have HK := TW.hide hK
  clear hK
  go_wp2
  refine HK.out _ _ ?_
  clear HK K
  refine wp_seq_k fun K hK => ?_
  have HK := TW.hide hK
  clear hK
  go_wp2_with fail
  refine (H0.out _ NB.out).mono ?_
  rintro ea wa ⟨rfl, rfl⟩
  go_wp2
  refine HK.out _ _ ?_
  clear HK K
  refine wp_seq_k fun K hK => ?_
  have HK := TW.hide hK
  clear hK
  go_wp2_with fail
  refine (H8.out _ NB.out).mono ?_
  rintro eb wb ⟨rfl, rfl⟩
  go_wp2
  refine HK.out _ _ ?_
  clear HK K
  obtain ⟨c0, c1, c2, c3, c4, c5, c6, c7, c8⟩ := cells9 N0.out
  refine wp_seq_k fun K hK => ?_
  have HK := TW.hide hK
  clear hK
  go_wp2_with fail
  refine (H.out _).mono ?_
  rintro e3 w3 ⟨s0, s1, s2, s3, s4, s5, g, cp, rfl, hs1, hf, hb⟩
  clear c0 c1 c2 c3 c4 c5 c6 c7 c8 H
  have HS1 := TW.hide hs1
  have hA : Below w3.heap.size w3 (((w3).alloc (.cells #[.int .i64 0, .int .i64 0, .int .i64 0, .int .i64 0, .int .u32 0, .int .i64 0, .slice none 0 0, .slice none 0 0, .slice none 0 0, .int .u64 0, .int .i64 0, .int .u64 0, .int .u64 0, .int .u64 0, .bool false, .bool false, .slice none 0 0] 53)).setRow w3.heap.size #[.int .i64 T.k, .int .i64 T.d, .int .i64 T.f, .int .i64 T.dp, .int .u32 T.lf, .int .i64 T.inn, .slice T.ka T.kl T.kc, .slice T.sa T.sl T.sc, .slice T.pa T.pl T.pc, .int .u64 n, .int .i64 s0, .int .u64 s1, .int .u64 s2, .int .u64 s3, .bool s4, .bool s5, .slice (some ⟨g, 0, none⟩) k cp]) := below_setRow ((Below.refl _ _).alloc (Nat.le_refl _) _) (Nat.le_refl _)
  have NW : Hid ((((w3).alloc (.cells #[.int .i64 0, .int .i64 0, .int .i64 0, .int .i64 0, .int .u32 0, .int .i64 0, .slice none 0 0, .slice none 0 0, .slice none 0 0, .int .u64 0, .int .i64 0, .int .u64 0, .int .u64 0, .int .u64 0, .bool false, .bool false, .slice none 0 0] 53)).setRow w3.heap.size #[.int .i64 T.k, .int .i64 T.d, .int .i64 T.f, .int .i64 T.dp, .int .u32 T.lf, .int .i64 T.inn, .slice T.ka T.kl T.kc, .slice T.sa T.sl T.sc, .slice T.pa T.pl T.pc, .int .u64 n, .int .i64 s0, .int .u64 s1, .int .u64 s2, .int .u64 s3, .bool s4, .bool s5, .slice (some ⟨g, 0, none⟩) k cp]).heap[w3.heap.size]? = some (.cells #[.int .i64 T.k, .int .i64 T.d, .int .i64 T.f, .int .i64 T.dp, .int .u32 T.lf, .int .i64 T.inn, .slice T.ka T.kl T.kc, .slice T.sa T.sl T.sc, .slice T.pa T.pl T.pc, .int .u64 n, .int .i64 s0, .int .u64 s1, .int .u64 s2, .int .u64 s3, .bool s4, .bool s5, .slice (some ⟨g, 0, none⟩) k cp] 53 (0, 0))) := setRow_heap _ _ _ _ _ _ (heap_alloc_new w3 _)
  have N0 := TW.hide (blk_keep (blk_keep N0.out hb) hA)
  have N1 := TW.hide (blk_keep (blk_keep N1.out hb) hA)
  have NF := TW.hide (hf.below hA)
  have NB : Hid (Below w.heap.size w (((w3).alloc (.cells #[.int .i64 0, .int .i64 0, .int .i64 0, .int .i64 0, .int .u32 0, .int .i64 0, .slice none 0 0, .slice none 0 0, .slice none 0 0, .int .u64 0, .int .i64 0, .int .u64 0, .int .u64 0, .int .u64 0, .bool false, .bool false, .slice none 0 0] 53)).setRow w3.heap.size #[.int .i64 T.k, .int .i64 T.d, .int .i64 T.f, .int .i64 T.dp, .int .u32 T.lf, .int .i64 T.inn, .slice T.ka T.kl T.kc, .slice T.sa T.sl T.sc, .slice T.pa T.pl T.pc, .int .u64 n, .int .i64 s0, .int .u64 s1, .int .u64 s2, .int .u64 s3, .bool s4, .bool s5, .slice (some ⟨g, 0, none⟩) k cp])) := (NB.out.trans (hb.mono NB.out.size)).trans (hA.mono (NB.out.trans (hb.mono NB.out.size)).size)
  clear hb hA hf hs1
  go_wp2_with (refine wpList_store_row (by rfl) 53 _ _ (by rfl) w3.heap.size #[.int .i64 T.k, .int .i64 T.d, .int .i64 T.f, .int .i64 T.dp, .int .u32 T.lf, .int .i64 T.inn, .slice T.ka T.kl T.kc, .slice T.sa T.sl T.sc, .slice T.pa T.pl T.pc, .int .u64 n, .int .i64 s0, .int .u64 s1, .int .u64 s2, .int .u64 s3, .bool s4, .bool s5, .slice (some ⟨g, 0, none⟩) k cp] (by rfl) (by rfl) 53 _ (heap_alloc_new w3 _) (by kernel_rfl) (by rfl) (by simp [Value.oneCell']) ?_)
  refine HK.out _ _ ?_
  clear HK K
  generalize World.setRow _ _ _ = V at *
  generalize w3.heap.size = gw at *
  generalize (Value.agg #[.int .i64 T.k, .int .i64 T.d, .int .i64 T.f, .int .i64 T.dp, .int .u32 T.lf, .int .i64 T.inn, .slice T.ka T.kl T.kc, .slice T.sa T.sl T.sc, .slice T.pa T.pl T.pc, .int .u64 n, .int .i64 s0, .int .u64 s1, .int .u64 s2, .int .u64 s3, .bool s4, .bool s5, .slice (some ⟨g, 0, none⟩) k cp]) = q1
  generalize (Value.tuple #[q1, .int .i64 0]) = q2
  generalize (Value.agg #[.int .i64 T.k, .int .i64 T.d, .int .i64 T.f, .int .i64 T.dp, .int .u32 T.lf, .int .i64 T.inn, .slice T.ka T.kl T.kc, .slice T.sa T.sl T.sc, .slice T.pa T.pl T.pc]) = q3
  generalize (Value.tuple #[.int .u64 (n : Int), .int .i64 0]) = q4
  generalize (Value.tuple #[.int .u64 (l : Int), .int .i64 0]) = q5
  refine wp_seq_k fun K hK => ?_
  have HK := TW.hide hK
  clear hK
  go_wp2
  refine HK.out _ _ ?_
  clear HK K
  refine wp_seq_k fun K hK => ?_
  have HK := TW.hide hK
  clear hK
  generalize hfr : Act.mk _ _ = fr
  have HC : Hid (∀ A : Option Addr, (A = some ⟨b, off + 16, none⟩ ∨ (cap ≤ 16 ∧ ∃ o, A = some ⟨b, o, none⟩)) → K (((fr.put (some 49) (.slice (some ⟨b, off, none⟩) zl cap)).put (some 50) (.slice A (zl - 16) (cap - 16))).put (some 13) (.slice A (zl - 16) (cap - 16))) V) := by
    intro A hA
    replace hA := TW.hide hA
    rw [← hfr]
    clear hfr fr
    simp only [Act.put, List.setIfInBounds_toArray, List.set_cons_zero, List.set_cons_succ, List.getElem_toArray, List.getElem_cons_zero, List.getElem_cons_succ]
    refine HK.out _ _ ?_
    clear HK K
    go_wp2_with (refine wpList_load_row (by rfl) 53 _ (by rfl) gw (by rfl) 53 #[.int .i64 T.k, .int .i64 T.d, .int .i64 T.f, .int .i64 T.dp, .int .u32 T.lf, .int .i64 T.inn, .slice T.ka T.kl T.kc, .slice T.sa T.sl T.sc, .slice T.pa T.pl T.pc, .int .u64 n, .int .i64 s0, .int .u64 s1, .int .u64 s2, .int .u64 s3, .bool s4, .bool s5, .slice (some ⟨g, 0, none⟩) k cp] (0, 0) _ NW.out Try.underlying53 rfl (by kernel_rfl) ?_)
    refine (HH.out s0 s1 s2 s3 s4 s5 g cp _ NF.out).mono ?_
    rintro e4 w4 ⟨rfl, hb⟩
    clear HH NF
    have N1 := TW.hide (blk_keep N1.out hb)
    have NB : Hid (Below w.heap.size w w4) := NB.out.trans (hb.mono NB.out.size)
    clear hb N0 NW
    go_wp2_with (refine wpList_store_row (by rfl) 37 _ _ (by rfl) (w.heap.size + 1) #[.int .u64 0, .int .u64 0, .slice none 0 0] (by rfl) (by rfl) 37 _ N1.out (by kernel_rfl) (by rfl) (by simp [Value.oneCell']) ?_)
    refine bodyPost_ret (v := .tuple #[.agg #[.int .u64 0, .int .u64 0, .slice none 0 0], .int .i64 E]) (results_row_tmp (P := Try.prog) Try.results10 _ _ (w.heap.size + 1) 37 _ (0, 0) _ _ (by rfl) (by rfl) (setRow_heap _ _ _ _ _ _ N1.out) Try.underlying37 rfl (by kernel_rfl)) rfl ?_
    exact ⟨rfl, below_setRow NB.out (by omega)⟩
  clear HK
  subst hfr
  go_wp2
  · obtain rfl : cap = 16 := by assumption
    exact HC.out _ (.inr ⟨by omega, _, rfl⟩)
  · exact HC.out _ (.inl rfl)
end LW
end Go.Proofs.Ytcpegipojkbcoaa
namespace Go.Proofs.Ytcpegipojkbcoaa
open Go.RowKit
set_option linter.unusedVariables false
set_option linter.unusedSimpArgs false
namespace LW
open Words
theorem own_pos {w : World} {B n s : Nat} {t : TypeId} {v : Value} {xs : List Value} (h : w.ownsRow B t s v n xs) (hn : 0 < n) : ∃ g cap, v = .slice (some ⟨g, 0, none⟩) n cap ∧ B ≤ g ∧ g < w.heap.size := by
  rcases h.2 with ⟨_, h0⟩ | ⟨g, cap, cur, rfl, hg, hh, _⟩
  · omega
  · exact ⟨g, cap, rfl, hg, blk_lt hh⟩
theorem own2_cell {w : World} {B g k c s : Nat} {t : TypeId} {xs : List Value} (h : w.ownsRow B t s (.slice (some ⟨g, 0, none⟩) k c) k xs) (i : Nat) (hi : i < k * s) : ∃ z, w.cell? ⟨g, i, none⟩ = some z := by
  have h1 := h.1
  rw [h.cellAt i hi]
  exact ⟨_, List.getElem?_eq_getElem (by omega)⟩
theorem own_blk {w : World} {B g k c s : Nat} {t : TypeId} {xs : List Value} (h : w.ownsRow B t s (.slice (some ⟨g, 0, none⟩) k c) k xs) : ∃ cur, w.heap[g]? = some (.cells cur t (0, 0)) := by
  rcases h.2 with ⟨h', _⟩ | ⟨g', cap', cur, h', hb, hg, _⟩
  · cases h'
  · injection h' with h1 h2 h3
    injection h1 with h1
    injection h1 with h1
    subst h1
    exact ⟨cur, hg⟩
theorem OL.setN {w : World} {B p o : Nat} {t' : TypeId} {fr : Nat × Nat} {v u : Value} {cs : Array Value} {ls : List (List Int)} (h : OL w B v ls) (hp : w.heap[p]? = some (.cells cs t' fr)) (ht : 5 ≠ t') (ht2 : 24 ≠ t') : OL (w.setCell ⟨p, o, none⟩ u) B v ls := by
  obtain ⟨xs, h1, h2⟩ := h
  exact ⟨xs, ow_setN h1 hp ht2, h2.setN hp ht⟩
theorem OwS.put0 {w : World} {B g k c i : Nat} {f f' : Nat → Stp} {xs : List Value} {u : Value} (h : OwS w B (.slice (some ⟨g, 0, none⟩) k c) k f xs) (hi : i < k) (hu : OL w B u (f' i).1) (hf : ∀ r, r ≠ i → f' r = f r) (h0 : (f' i).2 = (f i).2) : OwS (w.setCell ⟨g, i * 2, none⟩ u) B (.slice (some ⟨g, 0, none⟩) k c) k f' (xs.set (i * 2) u) := by
  obtain ⟨cur, hg⟩ := own_blk h.own
  have hl := h.own.1
  refine ⟨(h.own.stored (i * 2) u).1, fun r hr => ?_⟩
  obtain ⟨u1, u2, k1, k2, k3, k4⟩ := h.get r hr
  by_cases hri : r = i
  · subst hri
    exact ⟨u, u2, by rw [List.getElem?_set_self (by omega)], by rw [List.getElem?_set_ne (by omega)]; exact k2, hu.setN hg (by decide) (by decide), by rw [h0]; exact k4.setN hg (by decide) (by decide)⟩
  · rw [hf r hri]
    exact ⟨u1, u2, by rw [List.getElem?_set_ne (by omega)]; exact k1, by rw [List.getElem?_set_ne (by omega)]; exact k2, k3.setN hg (by decide) (by decide), k4.setN hg (by decide) (by decide)⟩
theorem OwS.put1 {w : World} {B g k c i : Nat} {f f' : Nat → Stp} {xs : List Value} {u : Value} (h : OwS w B (.slice (some ⟨g, 0, none⟩) k c) k f xs) (hi : i < k) (hu : OL w B u (f' i).2) (hf : ∀ r, r ≠ i → f' r = f r) (h0 : (f' i).1 = (f i).1) : OwS (w.setCell ⟨g, i * 2 + 1, none⟩ u) B (.slice (some ⟨g, 0, none⟩) k c) k f' (xs.set (i * 2 + 1) u) := by
  obtain ⟨cur, hg⟩ := own_blk h.own
  have hl := h.own.1
  refine ⟨(h.own.stored (i * 2 + 1) u).1, fun r hr => ?_⟩
  obtain ⟨u1, u2, k1, k2, k3, k4⟩ := h.get r hr
  by_cases hri : r = i
  · subst hri
    exact ⟨u1, u, by rw [List.getElem?_set_ne (by omega)]; exact k1, by rw [List.getElem?_set_self (by omega)], by rw [h0]; exact k3.setN hg (by decide) (by decide), hu.setN hg (by decide) (by decide)⟩
  · rw [hf r hri]
    exact ⟨u1, u2, by rw [List.getElem?_set_ne (by omega)]; exact k1, by rw [List.getElem?_set_ne (by omega)]; exact k2, k3.setN hg (by decide) (by decide), k4.setN hg (by decide) (by decide)⟩
theorem OwS.congr {w : World} {B k : Nat} {v : Value} {f f' : Nat → Stp} {xs : List Value} (h : OwS w B v k f xs) (hf : ∀ i, i < k → f i = f' i) : OwS w B v k f' xs :=
  ⟨h.own, fun i hi => by rw [← hf i hi]; exact h.get i hi⟩
/-- The steps as far as they are told. -/
def FJ (UP : Nat → Stp) (j : Nat) : Nat → Stp := fun i => if i < j then UP i else ([], [])
def FH (UP : Nat → Stp) (j : Nat) : Nat → Stp := fun i => if i < j then UP i else if i = j then ((UP j).1, []) else ([], [])
set_option maxRecDepth 100000 in
set_option maxHeartbeats 4000000 in
theorem punpK (T : Tr) (b off zl cap : Nat) (w : World) (n l k m : Nat) (zs : List Int) (AW WF WT SZ : Nat → Nat) (UP : Nat → Stp) (hz : 16 ≤ zl) (hc : zl ≤ cap) (hk1 : 1 ≤ k) (hk : k ≤ 255) (HV : ∀ W, Calls Try.prog 23 #[.agg (trC T)] W fun e w' => e = .returned (.int .i64 0) ∧ Below W.heap.size W w') (H0 : ∀ W, Below w.heap.size w W → Calls Try.prog 24 #[.slice (some ⟨b, off, none⟩) zl cap, .int .i64 0] W fun e w' => e = .returned (.tuple #[.int .u64 (n : Int), .int .i64 0]) ∧ W = w') (H8 : ∀ W, Below w.heap.size w W → Calls Try.prog 24 #[.slice (some ⟨b, off, none⟩) zl cap, .int .i64 8] W fun e w' => e = .returned (.tuple #[.int .u64 (l : Int), .int .i64 0]) ∧ W = w') (H : ∀ W, Calls Try.prog 14 #[.agg (trC T), .int .u64 n, .int .u64 l] W fun e w' => ∃ (s0 s1 s2 s3 : Int) (s4 s5 : Bool) (g cp : Nat), e = .returned (.tuple #[.agg #[.int .i64 T.k, .int .i64 T.d, .int .i64 T.f, .int .i64 T.dp, .int .u32 T.lf, .int .i64 T.inn, .slice T.ka T.kl T.kc, .slice T.sa T.sl T.sc, .slice T.pa T.pl T.pc, .int .u64 n, .int .i64 s0, .int .u64 s1, .int .u64 s2, .int .u64 s3, .bool s4, .bool s5, .slice (some ⟨g, 0, none⟩) k cp], .int .i64 0]) ∧ s1 = (l : Int) ∧ Fk w' g k AW WF WT ∧ Below W.heap.size W w') (HH : ∀ (s0 s1 s2 s3 : Int) (s4 s5 : Bool) (g cp : Nat) W, Fk W g k AW WF WT → Calls Try.prog 25 #[.agg #[.int .i64 T.k, .int .i64 T.d, .int .i64 T.f, .int .i64 T.dp, .int .u32 T.lf, .int .i64 T.inn, .slice T.ka T.kl T.kc, .slice T.sa T.sl T.sc, .slice T.pa T.pl T.pc, .int .u64 n, .int .i64 s0, .int .u64 s1, .int .u64 s2, .int .u64 s3, .bool s4, .bool s5, .slice (some ⟨g, 0, none⟩) k cp], .int .i64 ((zl - 16 : Nat) : Int)] W fun e w' => e = .returned (.int .i64 0) ∧ Below W.heap.size W w') (HX : ∀ i, i < k → WF (i + 1) ≤ AW i ∧ AW i < WT (i + 1) ∧ WT (i + 1) < 18446744073709551616) (hS0 : SZ 0 = 0) (HS : ∀ i, i < k → SZ (i + 1) = SZ i + ((AW i - WF (i + 1)) + (WT (i + 1) - AW i - 1))) (HSm : ∀ i, i ≤ k → 16 + SZ i * m ≤ zl) (HUP : ∀ i, UP i = (dgL zs (16 + SZ i * m) m (AW i - WF (i + 1)), dgL zs (16 + SZ i * m + (AW i - WF (i + 1)) * m) m (WT (i + 1) - AW i - 1)))
    (HCut : ∀ (s0 s1 s2 s3 : Int) (s4 s5 : Bool) (g cp p q : Nat) (W : World), Below w.heap.size w W → p + q * m ≤ zl → ∀ x, Rest b off cap zl p x → Calls Try.prog 27 #[.agg #[.int .i64 T.k, .int .i64 T.d, .int .i64 T.f, .int .i64 T.dp, .int .u32 T.lf, .int .i64 T.inn, .slice T.ka T.kl T.kc, .slice T.sa T.sl T.sc, .slice T.pa T.pl T.pc, .int .u64 n, .int .i64 s0, .int .u64 s1, .int .u64 s2, .int .u64 s3, .bool s4, .bool s5, .slice (some ⟨g, 0, none⟩) k cp], x, .int .u64 q] W fun e w' => ∃ v x', e = .returned (.tuple #[v, x']) ∧ Rest b off cap zl (p + q * m) x' ∧ OL w' W.heap.size v (dgL zs p m q) ∧ Below W.heap.size W w') :
    Calls Try.prog 10 #[.agg (trC T), .slice (some ⟨b, off, none⟩) zl cap] w fun e w' => ∃ v xs, e = .returned (.tuple #[.agg #[.int .u64 n, .int .u64 l, v], .int .i64 0]) ∧ OwS w' w.heap.size v k UP xs ∧ Below w.heap.size w w' := by
  replace HV := TW.hide HV
  replace H0 := TW.hide H0
  replace H8 := TW.hide H8
  have k16 : ¬ (zl : Int) < 16 := by omega
  replace H := TW.hide H
  replace HH := TW.hide HH
  replace HX := TW.hide HX
  replace HS := TW.hide HS
  replace HSm := TW.hide HSm
  replace HUP := TW.hide HUP
  replace HCut := TW.hide HCut
  have HS0 := TW.hide hS0
  clear hS0
  have k1 : (16 : Int) ≤ (zl : Int) := by omega
  have k2 : (16 : Int) ≤ (cap : Int) := by omega
  have k3 : (zl : Int) ≤ (cap : Int) := by omega
  unfold trC at *
  have n0 := heap_alloc_new w (.cells #[.int .i64 T.k, .int .i64 T.d, .int .i64 T.f, .int .i64 T.dp, .int .u32 T.lf, .int .i64 T.inn, .slice T.ka T.kl T.kc, .slice T.sa T.sl T.sc, .slice T.pa T.pl T.pc] 26)
  have hb0 := (Below.refl w.heap.size w).alloc (Nat.le_refl _) (.cells #[.int .i64 T.k, .int .i64 T.d, .int .i64 T.f, .int .i64 T.dp, .int .u32 T.lf, .int .i64 T.inn, .slice T.ka T.kl T.kc, .slice T.sa T.sl T.sc, .slice T.pa T.pl T.pc] 26)
  have n1 := heap_alloc_new (w.alloc (.cells #[.int .i64 T.k, .int .i64 T.d, .int .i64 T.f, .int .i64 T.dp, .int .u32 T.lf, .int .i64 T.inn, .slice T.ka T.kl T.kc, .slice T.sa T.sl T.sc, .slice T.pa T.pl T.pc] 26)) (.cells #[.int .u64 0, .int .u64 0, .slice none 0 0] 37)
  rw [show (w.alloc (.cells #[.int .i64 T.k, .int .i64 T.d, .int .i64 T.f, .int .i64 T.dp, .int .u32 T.lf, .int .i64 T.inn, .slice T.ka T.kl T.kc, .slice T.sa T.sl T.sc, .slice T.pa T.pl T.pc] 26)).heap.size = w.heap.size + 1 by simp] at n1
  have n0 := blk_alloc (o' := .cells #[.int .u64 0, .int .u64 0, .slice none 0 0] 37) n0
  have hb1 := hb0.alloc hb0.size (.cells #[.int .u64 0, .int .u64 0, .slice none 0 0] 37)
  have N0 := TW.hide n0
  have N1 := TW.hide n1
  have NB := TW.hide hb1
  clear n0 n1 hb0 hb1
  go_enter Try.func10, Try.ntmps10
  refine wp_seq_k fun K hK => ?_
  have HK := TW.hide hK
  clear hK
  go_wp2_with fail
  refine HK.out _ _ ?_
  clear HK K
  generalize (w.alloc _).alloc _ = X at *
  refine wp_seq_k fun K hK => ?_
  have HK := TW.hide hK
  clear hK
  obtain ⟨c0, c1, c2, c3, c4, c5, c6, c7, c8⟩ := cells9 N0.out
  go_wp2_with fail
  refine (HV.out _).mono ?_
  rintro e1 w1 ⟨rfl, hb⟩
  clear c0 c1 c2 c3 c4 c5 c6 c7 c8
  have N0 := TW.hide (blk_keep N0.out hb)
  have N1 := TW.hide (blk_keep N1.out hb)
  have NB : Hid (Below w.heap.size w w1) := NB.out.trans (hb.mono NB.out.size)
  clear hb
  go_wp2
  refine HK.out _ _ ?_
  clear HK K
  refine wp_seq_k fun K hK => ?_
  have HK := TW.hide hK
  clear hK
  go_wp2
  refine HK.out _ _ ?_
  clear HK K
  refine wp_seq_k fun K hK => ?_
  have HK := TW.hide hK
  clear hK
  go_wp2_with fail
  refine (H0.out _ NB.out).mono ?_
  rintro ea wa ⟨rfl, rfl⟩
  go_wp2
  refine HK.out _ _ ?_
  clear HK K
  refine wp_seq_k fun K hK => ?_
  have HK := TW.hide hK
  clear hK
  go_wp2_with fail
  refine (H8.out _ NB.out).mono ?_
  rintro eb wb ⟨rfl, rfl⟩
  go_wp2
  refine HK.out _ _ ?_
  clear HK K
  obtain ⟨c0, c1, c2, c3, c4, c5, c6, c7, c8⟩ := cells9 N0.out
  refine wp_seq_k fun K hK => ?_
  have HK := TW.hide hK
  clear hK
  go_wp2_with fail
  refine (H.out _).mono ?_
  rintro e3 w3 ⟨s0, s1, s2, s3, s4, s5, g, cp, rfl, hs1, hf, hb⟩
  clear c0 c1 c2 c3 c4 c5 c6 c7 c8 H
  have HS1 := TW.hide hs1
  have hA : Below w3.heap.size w3 (((w3).alloc (.cells #[.int .i64 0, .int .i64 0, .int .i64 0, .int .i64 0, .int .u32 0, .int .i64 0, .slice none 0 0, .slice none 0 0, .slice none 0 0, .int .u64 0, .int .i64 0, .int .u64 0, .int .u64 0, .int .u64 0, .bool false, .bool false, .slice none 0 0] 53)).setRow w3.heap.size #[.int .i64 T.k, .int .i64 T.d, .int .i64 T.f, .int .i64 T.dp, .int .u32 T.lf, .int .i64 T.inn, .slice T.ka T.kl T.kc, .slice T.sa T.sl T.sc, .slice T.pa T.pl T.pc, .int .u64 n, .int .i64 s0, .int .u64 s1, .int .u64 s2, .int .u64 s3, .bool s4, .bool s5, .slice (some ⟨g, 0, none⟩) k cp]) := below_setRow ((Below.refl _ _).alloc (Nat.le_refl _) _) (Nat.le_refl _)
  have NW : Hid ((((w3).alloc (.cells #[.int .i64 0, .int .i64 0, .int .i64 0, .int .i64 0, .int .u32 0, .int .i64 0, .slice none 0 0, .slice none 0 0, .slice none 0 0, .int .u64 0, .int .i64 0, .int .u64 0, .int .u64 0, .int .u64 0, .bool false, .bool false, .slice none 0 0] 53)).setRow w3.heap.size #[.int .i64 T.k, .int .i64 T.d, .int .i64 T.f, .int .i64 T.dp, .int .u32 T.lf, .int .i64 T.inn, .slice T.ka T.kl T.kc, .slice T.sa T.sl T.sc, .slice T.pa T.pl T.pc, .int .u64 n, .int .i64 s0, .int .u64 s1, .int .u64 s2, .int .u64 s3, .bool s4, .bool s5, .slice (some ⟨g, 0, none⟩) k cp]).heap[w3.heap.size]? = some (.cells #[.int .i64 T.k, .int .i64 T.d, .int .i64 T.f, .int .i64 T.dp, .int .u32 T.lf, .int .i64 T.inn, .slice T.ka T.kl T.kc, .slice T.sa T.sl T.sc, .slice T.pa T.pl T.pc, .int .u64 n, .int .i64 s0, .int .u64 s1, .int .u64 s2, .int .u64 s3, .bool s4, .bool s5, .slice (some ⟨g, 0, none⟩) k cp] 53 (0, 0))) := setRow_heap _ _ _ _ _ _ (heap_alloc_new w3 _)
  have N0 := TW.hide (blk_keep (blk_keep N0.out hb) hA)
  have N1 := TW.hide (blk_keep (blk_keep N1.out hb) hA)
  have NF := TW.hide (hf.below hA)
  have NB : Hid (Below w.heap.size w (((w3).alloc (.cells #[.int .i64 0, .int .i64 0, .int .i64 0, .int .i64 0, .int .u32 0, .int .i64 0, .slice none 0 0, .slice none 0 0, .slice none 0 0, .int .u64 0, .int .i64 0, .int .u64 0, .int .u64 0, .int .u64 0, .bool false, .bool false, .slice none 0 0] 53)).setRow w3.heap.size #[.int .i64 T.k, .int .i64 T.d, .int .i64 T.f, .int .i64 T.dp, .int .u32 T.lf, .int .i64 T.inn, .slice T.ka T.kl T.kc, .slice T.sa T.sl T.sc, .slice T.pa T.pl T.pc, .int .u64 n, .int .i64 s0, .int .u64 s1, .int .u64 s2, .int .u64 s3, .bool s4, .bool s5, .slice (some ⟨g, 0, none⟩) k cp])) := (NB.out.trans (hb.mono NB.out.size)).trans (hA.mono (NB.out.trans (hb.mono NB.out.size)).size)
  clear hb hA hf hs1
  go_wp2_with (refine wpList_store_row (by rfl) 53 _ _ (by rfl) w3.heap.size #[.int .i64 T.k, .int .i64 T.d, .int .i64 T.f, .int .i64 T.dp, .int .u32 T.lf, .int .i64 T.inn, .slice T.ka T.kl T.kc, .slice T.sa T.sl T.sc, .slice T.pa T.pl T.pc, .int .u64 n, .int .i64 s0, .int .u64 s1, .int .u64 s2, .int .u64 s3, .bool s4, .bool s5, .slice (some ⟨g, 0, none⟩) k cp] (by rfl) (by rfl) 53 _ (heap_alloc_new w3 _) (by kernel_rfl) (by rfl) (by simp [Value.oneCell']) ?_)
  refine HK.out _ _ ?_
  clear HK K
  generalize World.setRow _ _ _ = V at *
  generalize w3.heap.size = gw at *
  generalize (Value.agg #[.int .i64 T.k, .int .i64 T.d, .int .i64 T.f, .int .i64 T.dp, .int .u32 T.lf, .int .i64 T.inn, .slice T.ka T.kl T.kc, .slice T.sa T.sl T.sc, .slice T.pa T.pl T.pc, .int .u64 n, .int .i64 s0, .int .u64 s1, .int .u64 s2, .int .u64 s3, .bool s4, .bool s5, .slice (some ⟨g, 0, none⟩) k cp]) = q1
  generalize (Value.tuple #[q1, .int .i64 0]) = q2
  generalize (Value.agg #[.int .i64 T.k, .int .i64 T.d, .int .i64 T.f, .int .i64 T.dp, .int .u32 T.lf, .int .i64 T.inn, .slice T.ka T.kl T.kc, .slice T.sa T.sl T.sc, .slice T.pa T.pl T.pc]) = q3
  generalize (Value.tuple #[.int .u64 (n : Int), .int .i64 0]) = q4
  generalize (Value.tuple #[.int .u64 (l : Int), .int .i64 0]) = q5
  refine wp_seq_k fun K hK => ?_
  have HK := TW.hide hK
  clear hK
  go_wp2
  refine HK.out _ _ ?_
  clear HK K
  refine wp_seq_k fun K hK => ?_
  have HK := TW.hide hK
  clear hK
  generalize hfr : Act.mk _ _ = fr
  have HC : Hid (∀ A : Option Addr, (A = some ⟨b, off + 16, none⟩ ∨ (cap ≤ 16 ∧ ∃ o, A = some ⟨b, o, none⟩)) → K (((fr.put (some 49) (.slice (some ⟨b, off, none⟩) zl cap)).put (some 50) (.slice A (zl - 16) (cap - 16))).put (some 13) (.slice A (zl - 16) (cap - 16))) V) := by
    intro A hA
    replace hA := TW.hide hA
    rw [← hfr]
    clear hfr fr
    simp only [Act.put, List.setIfInBounds_toArray, List.set_cons_zero, List.set_cons_succ, List.getElem_toArray, List.getElem_cons_zero, List.getElem_cons_succ]
    refine HK.out _ _ ?_
    clear HK K
    refine wp_seq_k fun K hK => ?_
    have HK := TW.hide hK
    clear hK
    go_wp2_with (refine wpList_load_row (by rfl) 53 _ (by rfl) gw (by rfl) 53 #[.int .i64 T.k, .int .i64 T.d, .int .i64 T.f, .int .i64 T.dp, .int .u32 T.lf, .int .i64 T.inn, .slice T.ka T.kl T.kc, .slice T.sa T.sl T.sc, .slice T.pa T.pl T.pc, .int .u64 n, .int .i64 s0, .int .u64 s1, .int .u64 s2, .int .u64 s3, .bool s4, .bool s5, .slice (some ⟨g, 0, none⟩) k cp] (0, 0) _ NW.out Try.underlying53 rfl (by kernel_rfl) ?_)
    refine (HH.out s0 s1 s2 s3 s4 s5 g cp _ NF.out).mono ?_
    rintro e4 w4 ⟨rfl, hb⟩
    clear HH N0
    have N1 := TW.hide (blk_keep N1.out hb)
    have NW := TW.hide (blk_keep NW.out hb)
    have NF : Hid (Fk w4 g k AW WF WT) := NF.out.below hb
    have HB4 : Hid (Below w.heap.size w w4) := NB.out.trans (hb.mono NB.out.size)
    have HN1L := TW.hide (blk_lt N1.out)
    clear hb NB
    go_wp2
    refine HK.out _ _ ?_
    clear HK K
    generalize (Value.agg #[.int .i64 T.k, .int .i64 T.d, .int .i64 T.f, .int .i64 T.dp, .int .u32 T.lf, .int .i64 T.inn, .slice T.ka T.kl T.kc, .slice T.sa T.sl T.sc, .slice T.pa T.pl T.pc, .int .u64 n, .int .i64 s0, .int .u64 s1, .int .u64 s2, .int .u64 s3, .bool s4, .bool s5, .slice (some ⟨g, 0, none⟩) k cp]) = q6
    refine wp_seq_k fun K hK => ?_
    have HK := TW.hide hK
    clear hK
    go_wp2_with (refine wpList_load_row (by rfl) 53 _ (by rfl) gw (by rfl) 53 #[.int .i64 T.k, .int .i64 T.d, .int .i64 T.f, .int .i64 T.dp, .int .u32 T.lf, .int .i64 T.inn, .slice T.ka T.kl T.kc, .slice T.sa T.sl T.sc, .slice T.pa T.pl T.pc, .int .u64 n, .int .i64 s0, .int .u64 s1, .int .u64 s2, .int .u64 s3, .bool s4, .bool s5, .slice (some ⟨g, 0, none⟩) k cp] (0, 0) _ NW.out Try.underlying53 rfl (by kernel_rfl) ?_)
    refine (path_ T n s0 s1 s2 s3 s4 s5 g k cp w4 hk).mono ?_
    rintro e5 w5 ⟨v5, xs5, rfl, ho, hb⟩
    obtain ⟨gs, cs, rfl, hgs, hgs2⟩ := own_pos ho.own (by omega)
    have hA : Below w5.heap.size w5 (w5.alloc (.cells #[.int .u64 n, .int .u64 s1, .slice (some ⟨gs, 0, none⟩) k cs] 37)) := (Below.refl _ _).alloc (Nat.le_refl _) _
    have U0 := TW.hide (ho.below hA)
    have P0 := TW.hide (heap_alloc_new w5 (.cells #[.int .u64 n, .int .u64 s1, .slice (some ⟨gs, 0, none⟩) k cs] 37))
    have BB0 : Hid (Below w4.heap.size w4 (w5.alloc (.cells #[.int .u64 n, .int .u64 s1, .slice (some ⟨gs, 0, none⟩) k cs] 37))) := hb.trans (hA.mono hb.size)
    have HGS := TW.hide hgs
    clear ho hb hA hgs hgs2
    go_wp2
    refine HK.out _ _ ?_
    clear HK K
    generalize w5.alloc _ = V5 at *
    generalize w5.heap.size = gp at *
    generalize (Value.agg #[.int .i64 T.k, .int .i64 T.d, .int .i64 T.f, .int .i64 T.dp, .int .u32 T.lf, .int .i64 T.inn, .slice T.ka T.kl T.kc, .slice T.sa T.sl T.sc, .slice T.pa T.pl T.pc, .int .u64 n, .int .i64 s0, .int .u64 s1, .int .u64 s2, .int .u64 s3, .bool s4, .bool s5, .slice (some ⟨g, 0, none⟩) k cp]) = q7
    generalize (Value.agg #[.int .u64 n, .int .u64 s1, .slice (some ⟨gs, 0, none⟩) k cs]) = q8
    have RX0 : Hid (Rest b off cap zl 16 (.slice A (zl - 16) (cap - 16))) := ⟨A, rfl, hA.out⟩
    obtain ⟨_, _, _, f0, _⟩ := cells17 (blk_keep NW.out BB0.out)
    refine wp_seq_k fun K hK => ?_
    have HK := TW.hide hK
    clear hK
    go_wp2
    go_loopw [13, 16, 17, 64] (fun x y z i wr => ∃ (j : Nat) (xs : List Value), j ≤ k ∧ Rest b off cap zl (16 + SZ j * m) x ∧ i = .int .i64 (j : Int) ∧ OwS wr w4.heap.size (.slice (some ⟨gs, 0, none⟩) k cs) k (FJ UP j) xs ∧ wr.heap[gp]? = some (.cells #[.int .u64 n, .int .u64 s1, .slice (some ⟨gs, 0, none⟩) k cs] 37 (0, 0)) ∧ Below w4.heap.size w4 wr) (fun x y z i wr => k - (intOf i).toNat)
    case atStart => exact ⟨0, _, Nat.zero_le _, by rw [HS0.out, Nat.zero_mul, Nat.add_zero]; exact RX0.out, rfl, U0.out, P0.out, BB0.out⟩
    case round =>
      obtain ⟨j, xsa, hj, hrx, rfl, hos, hgp, hbb⟩ := hrel
      clear U0 P0 BB0 RX0
      by_cases hlt : j < k
      · have hj1 : (j : Int) < (k : Int) := by omega
        have hj0 : (0 : Int) ≤ (j : Int) := by omega
        have e3 : IntKind.i64.wrap ((j : Int) + 1) = ((j + 1 : Nat) : Int) := by rw [IntKind.wrap_i64]; omega
        obtain ⟨x0, x1, x4, x5, g0, g1, g2, g3, g4, g5, g6⟩ := NF.out.below hbb j hlt
        obtain ⟨h1, h2, h3⟩ := HX.out j hlt
        have HBF := TW.hide (fun W => before_ x0 x1 (WF (j + 1)) (WT (j + 1)) (AW j) x4 x5 h1 h2 h3 W)
        have HAF := TW.hide (fun W => after_ x0 x1 (WF (j + 1)) (WT (j + 1)) (AW j) x4 x5 h1 h2 h3 W)
        have hS1 := HS.out j hlt
        have hS2 := HSm.out (j + 1) (by omega)
        have hp1 : 16 + SZ j * m + (AW j - WF (j + 1)) * m + (WT (j + 1) - AW j - 1) * m = 16 + SZ (j + 1) * m := by rw [hS1, Nat.add_mul, Nat.add_mul]; omega
        have hp2 : 16 + SZ (j + 1) * m ≤ zl := hS2
        have HC1 := TW.hide (fun (x : Value) (hx : Rest b off cap zl (16 + SZ j * m) x) (W : World) (hW : Below w.heap.size w W) => HCut.out s0 s1 s2 s3 s4 s5 g cp (16 + SZ j * m) (AW j - WF (j + 1)) W hW (by omega) x hx)
        have HC2 := TW.hide (fun (x : Value) (hx : Rest b off cap zl (16 + SZ j * m + (AW j - WF (j + 1)) * m) x) (W : World) (hW : Below w.heap.size w W) => HCut.out s0 s1 s2 s3 s4 s5 g cp (16 + SZ j * m + (AW j - WF (j + 1)) * m) (WT (j + 1) - AW j - 1) W hW (by omega) x hx)
        have HUJ := HUP.out j
        rw [hp1] at HC2
        have HUJ := TW.hide HUJ
        have HF2 : Hid (∀ r, r ≠ j → FH UP j r = FJ UP j r) := fun r hr => by unfold FH FJ; split <;> simp [hr]
        have HF3 : Hid ((FH UP j j).2 = (FJ UP j j).2) := by show _ = _; simp [FH, FJ]
        have HF1 : Hid ((FH UP j j).1 = dgL zs (16 + SZ j * m) m (AW j - WF (j + 1))) := by show _ = _; simp [FH, HUJ.out]
        have HF5 : Hid (∀ r, r ≠ j → FJ UP (j + 1) r = FH UP j r) := fun r hr => by
          unfold FH FJ
          by_cases h : r < j
          · rw [if_pos (by omega), if_pos h]
          · rw [if_neg (by omega), if_neg h, if_neg hr]
        have HF6 : Hid ((FJ UP (j + 1) j).1 = (FH UP j j).1) := by show _ = _; simp [FH, FJ]
        have HF4 : Hid ((FJ UP (j + 1) j).2 = dgL zs (16 + SZ j * m + (AW j - WF (j + 1)) * m) m (WT (j + 1) - AW j - 1)) := by show _ = _; simp [FJ, HUJ.out]
        have HLT := TW.hide hlt
        clear HUJ
        clear hS1 hS2 hp1 hp2 h1 h2 h3 hlt hj
        generalize 16 + SZ j * m + (AW j - WF (j + 1)) * m = ps2 at *
        generalize hps3 : 16 + SZ (j + 1) * m = ps3 at *
        have HPS3 := TW.hide hps3
        clear hps3
        generalize 16 + SZ j * m = ps1 at *
        generalize AW j - WF (j + 1) = q1n at *
        generalize WT (j + 1) - AW j - 1 = q2n at *
        generalize WF (j + 1) = F at *
        generalize WT (j + 1) = E at *
        generalize AW j = C at *
        have HCa := TW.hide (HC1.out _ hrx)
        obtain ⟨Ax, rfl, _⟩ := hrx
        have hA6 : Below wr.heap.size wr (wr.alloc (.cells #[.int .i64 x0, .int .u64 x1, .int .u64 F, .int .u64 E, .bool x4, .bool x5, .int .u64 C] 74)) := (Below.refl _ _).alloc (Nat.le_refl _) _
        have GP := TW.hide (blk_keep hgp hA6)
        have GW := TW.hide (blk_keep (blk_keep NW.out hbb) hA6)
        have GF := TW.hide (heap_alloc_new wr (.cells #[.int .i64 x0, .int .u64 x1, .int .u64 F, .int .u64 E, .bool x4, .bool x5, .int .u64 C] 74))
        have OS := TW.hide (hos.below hA6)
        have BB : Hid (Below w4.heap.size w4 (wr.alloc (.cells #[.int .i64 x0, .int .u64 x1, .int .u64 F, .int .u64 E, .bool x4, .bool x5, .int .u64 C] 74))) := hbb.trans (hA6.mono hbb.size)
        clear hA6 hgp hos hbb HC1
        go_wp2
        generalize wr.alloc _ = Wa at *
        generalize wr.heap.size = gf at *
        refine wp_region_noPanic ?_
        refine RG.wp_region_L (fun Z => True) (fun Z => Z.heap[gp]? = some (.cells #[.int .u64 n, .int .u64 s1, .slice (some ⟨gs, 0, none⟩) k cs] 37 (0, 0)) ∧ Z.heap[gw]? = some (.cells #[.int .i64 T.k, .int .i64 T.d, .int .i64 T.f, .int .i64 T.dp, .int .u32 T.lf, .int .i64 T.inn, .slice T.ka T.kl T.kc, .slice T.sa T.sl T.sc, .slice T.pa T.pl T.pc, .int .u64 n, .int .i64 s0, .int .u64 s1, .int .u64 s2, .int .u64 s3, .bool s4, .bool s5, .slice (some ⟨g, 0, none⟩) k cp] 53 (0, 0)) ∧ Z.heap[gf]? = some (.cells #[.int .i64 x0, .int .u64 x1, .int .u64 F, .int .u64 E, .bool x4, .bool x5, .int .u64 C] 74 (0, 0))) [] (by kernel_rfl) ?_
        refine RG.wpL_any fun Ya hY => ?_
        have HTa : Hid (Ya.heap[gp]? = some (.cells #[.int .u64 n, .int .u64 s1, .slice (some ⟨gs, 0, none⟩) k cs] 37 (0, 0)) ∧ Ya.heap[gw]? = some (.cells #[.int .i64 T.k, .int .i64 T.d, .int .i64 T.f, .int .i64 T.dp, .int .u32 T.lf, .int .i64 T.inn, .slice T.ka T.kl T.kc, .slice T.sa T.sl T.sc, .slice T.pa T.pl T.pc, .int .u64 n, .int .i64 s0, .int .u64 s1, .int .u64 s2, .int .u64 s3, .bool s4, .bool s5, .slice (some ⟨g, 0, none⟩) k cp] 53 (0, 0)) ∧ Ya.heap[gf]? = some (.cells #[.int .i64 x0, .int .u64 x1, .int .u64 F, .int .u64 E, .bool x4, .bool x5, .int .u64 C] 74 (0, 0))) := by rw [hY]; exact ⟨GP.out, GW.out, GF.out⟩
        have OS : Hid (OwS Ya w4.heap.size (.slice (some ⟨gs, 0, none⟩) k cs) k (FJ UP j) xsa) := by rw [hY]; exact OS.out.below (below_drewN (Below.refl _ _) 1)
        have BB : Hid (Below w4.heap.size w4 Ya) := by rw [hY]; exact below_drewN BB.out 1
        clear hY GP GW GF
        refine RG.wpL_take (fuel := 9) (a' := ?Aaa) [0, 1, 2, 3, 4, 5] (by kernel_rfl) (by kernel_rfl) (fun _ _ _ _ _ h => h) HTa.out (fun _ => trivial) ?raa ?_
        case raa =>
          refine RG.RunsIf.weak (v := ?_) (by rfl) (by rfl) (fun Z hT => ?_) ?_
          rotate_left
          · go_simp
            rfl
          simp only [Act.put, List.setIfInBounds_toArray, List.set_cons_zero, List.set_cons_succ, List.getElem_toArray, List.getElem_cons_zero, List.getElem_cons_succ]
          refine RG.RunsIf.weak (v := (.slice (some ⟨gs, 0, none⟩) k cs)) (by rfl) (by rfl) (fun Z hT => ?_) ?_
          · obtain ⟨p0, p1, p2⟩ := cellsP3 hT.1
            go_simp
          simp only [Act.put, List.setIfInBounds_toArray, List.set_cons_zero, List.set_cons_succ, List.getElem_toArray, List.getElem_cons_zero, List.getElem_cons_succ]
          refine RG.RunsIf.weak (v := ?_) (by rfl) (by rfl) (fun Z hT => ?_) ?_
          rotate_left
          · go_simp
            rfl
          simp only [Act.put, List.setIfInBounds_toArray, List.set_cons_zero, List.set_cons_succ, List.getElem_toArray, List.getElem_cons_zero, List.getElem_cons_succ]
          refine RG.RunsIf.weak (v := .agg #[.int .i64 T.k, .int .i64 T.d, .int .i64 T.f, .int .i64 T.dp, .int .u32 T.lf, .int .i64 T.inn, .slice T.ka T.kl T.kc, .slice T.sa T.sl T.sc, .slice T.pa T.pl T.pc, .int .u64 n, .int .i64 s0, .int .u64 s1, .int .u64 s2, .int .u64 s3, .bool s4, .bool s5, .slice (some ⟨g, 0, none⟩) k cp]) (by rfl) (by rfl) (fun Z hT => exec_load_row' 53 _ (by rfl) gw (by rfl) 53 #[.int .i64 T.k, .int .i64 T.d, .int .i64 T.f, .int .i64 T.dp, .int .u32 T.lf, .int .i64 T.inn, .slice T.ka T.kl T.kc, .slice T.sa T.sl T.sc, .slice T.pa T.pl T.pc, .int .u64 n, .int .i64 s0, .int .u64 s1, .int .u64 s2, .int .u64 s3, .bool s4, .bool s5, .slice (some ⟨g, 0, none⟩) k cp] (0, 0) _ hT.2.1 Try.underlying53 rfl (by kernel_rfl)) ?_
          simp only [Act.put, List.setIfInBounds_toArray, List.set_cons_zero, List.set_cons_succ, List.getElem_toArray, List.getElem_cons_zero, List.getElem_cons_succ]
          refine RG.RunsIf.weak (v := ?_) (by rfl) (by rfl) (fun Z hT => ?_) ?_
          rotate_left
          · go_simp
            rfl
          simp only [Act.put, List.setIfInBounds_toArray, List.set_cons_zero, List.set_cons_succ, List.getElem_toArray, List.getElem_cons_zero, List.getElem_cons_succ]
          refine RG.RunsIf.weak (v := .agg #[.int .i64 x0, .int .u64 x1, .int .u64 F, .int .u64 E, .bool x4, .bool x5, .int .u64 C]) (by rfl) (by rfl) (fun Z hT => ?_) ?_
          · obtain ⟨y0, y1, y2, y3, y4, y5, y6⟩ := cells7 hT.2.2
            go_simp
          simp only [Act.put, List.setIfInBounds_toArray, List.set_cons_zero, List.set_cons_succ, List.getElem_toArray, List.getElem_cons_zero, List.getElem_cons_succ]
          exact RG.RunsIf.nil
        refine RG.wpL_step (i := 6) (by kernel_rfl) (by rfl) (by rfl) (fun KX hK => ?_)
        have HK := TW.hide hK
        clear hK
        go_simp
        refine (HBF.out _).mono ?_
        rintro ex1 W1a ⟨rfl, hb⟩
        have HT1a : Hid (W1a.heap[gp]? = some (.cells #[.int .u64 n, .int .u64 s1, .slice (some ⟨gs, 0, none⟩) k cs] 37 (0, 0)) ∧ W1a.heap[gw]? = some (.cells #[.int .i64 T.k, .int .i64 T.d, .int .i64 T.f, .int .i64 T.dp, .int .u32 T.lf, .int .i64 T.inn, .slice T.ka T.kl T.kc, .slice T.sa T.sl T.sc, .slice T.pa T.pl T.pc, .int .u64 n, .int .i64 s0, .int .u64 s1, .int .u64 s2, .int .u64 s3, .bool s4, .bool s5, .slice (some ⟨g, 0, none⟩) k cp] 53 (0, 0)) ∧ W1a.heap[gf]? = some (.cells #[.int .i64 x0, .int .u64 x1, .int .u64 F, .int .u64 E, .bool x4, .bool x5, .int .u64 C] 74 (0, 0))) := ⟨blk_keep HTa.out.1 hb, blk_keep HTa.out.2.1 hb, blk_keep HTa.out.2.2 hb⟩
        have OS := TW.hide (OS.out.below hb)
        have BB : Hid (Below w4.heap.size w4 W1a) := BB.out.trans (hb.mono BB.out.size)
        refine HK.out _ _ HT1a.out (fun _ => trivial) ?_
        clear HK KX hb HTa
        try simp only [Act.put, List.setIfInBounds_toArray, List.set_cons_zero, List.set_cons_succ, List.getElem_toArray, List.getElem_cons_zero, List.getElem_cons_succ]
        refine RG.wpL_step (i := 7) (by kernel_rfl) (by rfl) (by rfl) (fun KX hK => ?_)
        have HK := TW.hide hK
        clear hK
        go_simp
        refine (HCa.out _ (HB4.out.trans (BB.out.mono HB4.out.size))).mono ?_
        rintro ex2 W2a ⟨va, xa, rfl, hrest, hol, hb⟩
        have OLa := TW.hide (hol.base (B' := w4.heap.size) BB.out.size)
        have HT2a : Hid (W2a.heap[gp]? = some (.cells #[.int .u64 n, .int .u64 s1, .slice (some ⟨gs, 0, none⟩) k cs] 37 (0, 0)) ∧ W2a.heap[gw]? = some (.cells #[.int .i64 T.k, .int .i64 T.d, .int .i64 T.f, .int .i64 T.dp, .int .u32 T.lf, .int .i64 T.inn, .slice T.ka T.kl T.kc, .slice T.sa T.sl T.sc, .slice T.pa T.pl T.pc, .int .u64 n, .int .i64 s0, .int .u64 s1, .int .u64 s2, .int .u64 s3, .bool s4, .bool s5, .slice (some ⟨g, 0, none⟩) k cp] 53 (0, 0)) ∧ W2a.heap[gf]? = some (.cells #[.int .i64 x0, .int .u64 x1, .int .u64 F, .int .u64 E, .bool x4, .bool x5, .int .u64 C] 74 (0, 0))) := ⟨blk_keep HT1a.out.1 hb, blk_keep HT1a.out.2.1 hb, blk_keep HT1a.out.2.2 hb⟩
        have OS := TW.hide (OS.out.below hb)
        have BB : Hid (Below w4.heap.size w4 W2a) := BB.out.trans (hb.mono BB.out.size)
        obtain ⟨aa, ka, rfl, _⟩ := hol.one
        have RXa := TW.hide hrest
        refine HK.out _ _ HT2a.out (fun _ => trivial) ?_
        clear HK KX hb HT1a hol hrest
        try simp only [Act.put, List.setIfInBounds_toArray, List.set_cons_zero, List.set_cons_succ, List.getElem_toArray, List.getElem_cons_zero, List.getElem_cons_succ]
        refine RG.wpL_take (fuel := 2) (a' := ?Aba) [8, 9, 10, 11, 12] (by kernel_rfl) (by kernel_rfl) (fun _ _ _ _ _ h => h) HT2a.out (fun _ => trivial) ?rba ?_
        case rba =>
          refine RG.RunsIf.weak (v := ?_) (by rfl) (by rfl) (fun Z hT => ?_) ?_
          rotate_left
          · go_simp
            rfl
          simp only [Act.put, List.setIfInBounds_toArray, List.set_cons_zero, List.set_cons_succ, List.getElem_toArray, List.getElem_cons_zero, List.getElem_cons_succ]
          refine RG.RunsIf.weak (v := ?_) (by rfl) (by rfl) (fun Z hT => ?_) ?_
          rotate_left
          · go_simp
            rfl
          simp only [Act.put, List.setIfInBounds_toArray, List.set_cons_zero, List.set_cons_succ, List.getElem_toArray, List.getElem_cons_zero, List.getElem_cons_succ]
          refine RG.RunsIf.weak (v := ?_) (by rfl) (by rfl) (fun Z hT => ?_) ?_
          rotate_left
          · go_simp
            rfl
          simp only [Act.put, List.setIfInBounds_toArray, List.set_cons_zero, List.set_cons_succ, List.getElem_toArray, List.getElem_cons_zero, List.getElem_cons_succ]
          refine RG.RunsIf.weak (v := ?_) (by rfl) (by rfl) (fun Z hT => ?_) ?_
          rotate_left
          · go_simp
            rfl
          simp only [Act.put, List.setIfInBounds_toArray, List.set_cons_zero, List.set_cons_succ, List.getElem_toArray, List.getElem_cons_zero, List.getElem_cons_succ]
          refine RG.RunsIf.weak (v := ?_) (by rfl) (by rfl) (fun Z hT => ?_) ?_
          rotate_left
          · go_simp
            rfl
          simp only [Act.put, List.setIfInBounds_toArray, List.set_cons_zero, List.set_cons_succ, List.getElem_toArray, List.getElem_cons_zero, List.getElem_cons_succ]
          exact RG.RunsIf.nil
        obtain ⟨zc, hzc⟩ := own2_cell OS.out.own (j * 2) (by have := HLT.out; omega)
        have hfz : W2a.frozen? ⟨gs, j * 2, none⟩ = false := OS.out.own.frozenAt _
        have HT3a : Hid ((W2a.setCell ⟨gs, j * 2, none⟩ (.slice aa (dgL zs ps1 m q1n).length ka)).heap[gp]? = some (.cells #[.int .u64 n, .int .u64 s1, .slice (some ⟨gs, 0, none⟩) k cs] 37 (0, 0)) ∧ (W2a.setCell ⟨gs, j * 2, none⟩ (.slice aa (dgL zs ps1 m q1n).length ka)).heap[gw]? = some (.cells #[.int .i64 T.k, .int .i64 T.d, .int .i64 T.f, .int .i64 T.dp, .int .u32 T.lf, .int .i64 T.inn, .slice T.ka T.kl T.kc, .slice T.sa T.sl T.sc, .slice T.pa T.pl T.pc, .int .u64 n, .int .i64 s0, .int .u64 s1, .int .u64 s2, .int .u64 s3, .bool s4, .bool s5, .slice (some ⟨g, 0, none⟩) k cp] 53 (0, 0)) ∧ (W2a.setCell ⟨gs, j * 2, none⟩ (.slice aa (dgL zs ps1 m q1n).length ka)).heap[gf]? = some (.cells #[.int .i64 x0, .int .u64 x1, .int .u64 F, .int .u64 E, .bool x4, .bool x5, .int .u64 C] 74 (0, 0))) := ⟨blk_other HT2a.out.1 (own_not OS.out.own HT2a.out.1 (by decide)), blk_other HT2a.out.2.1 (own_not OS.out.own HT2a.out.2.1 (by decide)), blk_other HT2a.out.2.2 (own_not OS.out.own HT2a.out.2.2 (by decide))⟩
        have OS3 : Hid (OwS (W2a.setCell ⟨gs, j * 2, none⟩ (.slice aa (dgL zs ps1 m q1n).length ka)) w4.heap.size (.slice (some ⟨gs, 0, none⟩) k cs) k (FH UP j) (xsa.set (j * 2) (.slice aa (dgL zs ps1 m q1n).length ka))) := OS.out.put0 HLT.out (by rw [HF1.out]; exact OLa.out) HF2.out HF3.out
        have BB3 : Hid (Below w4.heap.size w4 (W2a.setCell ⟨gs, j * 2, none⟩ (.slice aa (dgL zs ps1 m q1n).length ka))) := BB.out.setCell (p := ⟨gs, j * 2, none⟩) HGS.out _
        refine RG.wpL_step (i := 13) (by kernel_rfl) (by rfl) (by rfl) (fun KX hK => ?_)
        have HK := TW.hide hK
        clear hK
        go_simp
        refine HK.out _ _ HT3a.out (fun _ => trivial) ?_
        clear HK KX HT2a OS BB OLa hzc hfz
        generalize World.setCell _ _ _ = W3a at *
        try simp only [Act.put, List.setIfInBounds_toArray, List.set_cons_zero, List.set_cons_succ, List.getElem_toArray, List.getElem_cons_zero, List.getElem_cons_succ]
        refine RG.wpL_take (fuel := 0) (a' := ?Aca) [14] (by kernel_rfl) (by kernel_rfl) (fun _ _ _ _ _ h => h) HT3a.out (fun _ => trivial) ?rca ?_
        case rca =>
          refine RG.RunsIf.weak (v := ?_) (by rfl) (by rfl) (fun Z hT => ?_) ?_
          rotate_left
          · go_simp
            rfl
          simp only [Act.put, List.setIfInBounds_toArray, List.set_cons_zero, List.set_cons_succ, List.getElem_toArray, List.getElem_cons_zero, List.getElem_cons_succ]
          exact RG.RunsIf.nil
        refine RG.wpL_done (by kernel_rfl) ?_ _
        refine NoPanic.normal ?_

        have GP := TW.hide HT3a.out.1
        have GW := TW.hide HT3a.out.2.1
        have GF := TW.hide HT3a.out.2.2
        have OS := OS3
        have BB := BB3
        clear OS3 BB3 HT3a HCa
        have HCb := TW.hide (HC2.out _ RXa.out)
        obtain ⟨xsb, hxb⟩ : ∃ xsb, xsa.set (j * 2) (.slice aa (dgL zs ps1 m q1n).length ka) = xsb := ⟨_, rfl⟩
        rw [hxb] at OS
        clear hxb
        go_wp2
        refine wp_region_noPanic ?_
        refine RG.wp_region_L (fun Z => True) (fun Z => Z.heap[gp]? = some (.cells #[.int .u64 n, .int .u64 s1, .slice (some ⟨gs, 0, none⟩) k cs] 37 (0, 0)) ∧ Z.heap[gw]? = some (.cells #[.int .i64 T.k, .int .i64 T.d, .int .i64 T.f, .int .i64 T.dp, .int .u32 T.lf, .int .i64 T.inn, .slice T.ka T.kl T.kc, .slice T.sa T.sl T.sc, .slice T.pa T.pl T.pc, .int .u64 n, .int .i64 s0, .int .u64 s1, .int .u64 s2, .int .u64 s3, .bool s4, .bool s5, .slice (some ⟨g, 0, none⟩) k cp] 53 (0, 0)) ∧ Z.heap[gf]? = some (.cells #[.int .i64 x0, .int .u64 x1, .int .u64 F, .int .u64 E, .bool x4, .bool x5, .int .u64 C] 74 (0, 0))) [] (by kernel_rfl) ?_
        refine RG.wpL_any fun Yb hY => ?_
        have HTa : Hid (Yb.heap[gp]? = some (.cells #[.int .u64 n, .int .u64 s1, .slice (some ⟨gs, 0, none⟩) k cs] 37 (0, 0)) ∧ Yb.heap[gw]? = some (.cells #[.int .i64 T.k, .int .i64 T.d, .int .i64 T.f, .int .i64 T.dp, .int .u32 T.lf, .int .i64 T.inn, .slice T.ka T.kl T.kc, .slice T.sa T.sl T.sc, .slice T.pa T.pl T.pc, .int .u64 n, .int .i64 s0, .int .u64 s1, .int .u64 s2, .int .u64 s3, .bool s4, .bool s5, .slice (some ⟨g, 0, none⟩) k cp] 53 (0, 0)) ∧ Yb.heap[gf]? = some (.cells #[.int .i64 x0, .int .u64 x1, .int .u64 F, .int .u64 E, .bool x4, .bool x5, .int .u64 C] 74 (0, 0))) := by rw [hY]; exact ⟨GP.out, GW.out, GF.out⟩
        have OS : Hid (OwS Yb w4.heap.size (.slice (some ⟨gs, 0, none⟩) k cs) k (FH UP j) xsb) := by rw [hY]; exact OS.out.below (below_drewN (Below.refl _ _) 1)
        have BB : Hid (Below w4.heap.size w4 Yb) := by rw [hY]; exact below_drewN BB.out 1
        clear hY GP GW GF
        refine RG.wpL_take (fuel := 9) (a' := ?Aab) [0, 1, 2, 3, 4, 5] (by kernel_rfl) (by kernel_rfl) (fun _ _ _ _ _ h => h) HTa.out (fun _ => trivial) ?rab ?_
        case rab =>
          refine RG.RunsIf.weak (v := ?_) (by rfl) (by rfl) (fun Z hT => ?_) ?_
          rotate_left
          · go_simp
            rfl
          simp only [Act.put, List.setIfInBounds_toArray, List.set_cons_zero, List.set_cons_succ, List.getElem_toArray, List.getElem_cons_zero, List.getElem_cons_succ]
          refine RG.RunsIf.weak (v := (.slice (some ⟨gs, 0, none⟩) k cs)) (by rfl) (by rfl) (fun Z hT => ?_) ?_
          · obtain ⟨p0, p1, p2⟩ := cellsP3 hT.1
            go_simp
          simp only [Act.put, List.setIfInBounds_toArray, List.set_cons_zero, List.set_cons_succ, List.getElem_toArray, List.getElem_cons_zero, List.getElem_cons_succ]
          refine RG.RunsIf.weak (v := ?_) (by rfl) (by rfl) (fun Z hT => ?_) ?_
          rotate_left
          · go_simp
            rfl
          simp only [Act.put, List.setIfInBounds_toArray, List.set_cons_zero, List.set_cons_succ, List.getElem_toArray, List.getElem_cons_zero, List.getElem_cons_succ]
          refine RG.RunsIf.weak (v := .agg #[.int .i64 T.k, .int .i64 T.d, .int .i64 T.f, .int .i64 T.dp, .int .u32 T.lf, .int .i64 T.inn, .slice T.ka T.kl T.kc, .slice T.sa T.sl T.sc, .slice T.pa T.pl T.pc, .int .u64 n, .int .i64 s0, .int .u64 s1, .int .u64 s2, .int .u64 s3, .bool s4, .bool s5, .slice (some ⟨g, 0, none⟩) k cp]) (by rfl) (by rfl) (fun Z hT => exec_load_row' 53 _ (by rfl) gw (by rfl) 53 #[.int .i64 T.k, .int .i64 T.d, .int .i64 T.f, .int .i64 T.dp, .int .u32 T.lf, .int .i64 T.inn, .slice T.ka T.kl T.kc, .slice T.sa T.sl T.sc, .slice T.pa T.pl T.pc, .int .u64 n, .int .i64 s0, .int .u64 s1, .int .u64 s2, .int .u64 s3, .bool s4, .bool s5, .slice (some ⟨g, 0, none⟩) k cp] (0, 0) _ hT.2.1 Try.underlying53 rfl (by kernel_rfl)) ?_
          simp only [Act.put, List.setIfInBounds_toArray, List.set_cons_zero, List.set_cons_succ, List.getElem_toArray, List.getElem_cons_zero, List.getElem_cons_succ]
          refine RG.RunsIf.weak (v := ?_) (by rfl) (by rfl) (fun Z hT => ?_) ?_
          rotate_left
          · go_simp
            rfl
          simp only [Act.put, List.setIfInBounds_toArray, List.set_cons_zero, List.set_cons_succ, List.getElem_toArray, List.getElem_cons_zero, List.getElem_cons_succ]
          refine RG.RunsIf.weak (v := .agg #[.int .i64 x0, .int .u64 x1, .int .u64 F, .int .u64 E, .bool x4, .bool x5, .int .u64 C]) (by rfl) (by rfl) (fun Z hT => ?_) ?_
          · obtain ⟨y0, y1, y2, y3, y4, y5, y6⟩ := cells7 hT.2.2
            go_simp
          simp only [Act.put, List.setIfInBounds_toArray, List.set_cons_zero, List.set_cons_succ, List.getElem_toArray, List.getElem_cons_zero, List.getElem_cons_succ]
          exact RG.RunsIf.nil
        refine RG.wpL_step (i := 6) (by kernel_rfl) (by rfl) (by rfl) (fun KX hK => ?_)
        have HK := TW.hide hK
        clear hK
        go_simp
        refine (HAF.out _).mono ?_
        rintro ex1 W1b ⟨rfl, hb⟩
        have HT1b : Hid (W1b.heap[gp]? = some (.cells #[.int .u64 n, .int .u64 s1, .slice (some ⟨gs, 0, none⟩) k cs] 37 (0, 0)) ∧ W1b.heap[gw]? = some (.cells #[.int .i64 T.k, .int .i64 T.d, .int .i64 T.f, .int .i64 T.dp, .int .u32 T.lf, .int .i64 T.inn, .slice T.ka T.kl T.kc, .slice T.sa T.sl T.sc, .slice T.pa T.pl T.pc, .int .u64 n, .int .i64 s0, .int .u64 s1, .int .u64 s2, .int .u64 s3, .bool s4, .bool s5, .slice (some ⟨g, 0, none⟩) k cp] 53 (0, 0)) ∧ W1b.heap[gf]? = some (.cells #[.int .i64 x0, .int .u64 x1, .int .u64 F, .int .u64 E, .bool x4, .bool x5, .int .u64 C] 74 (0, 0))) := ⟨blk_keep HTa.out.1 hb, blk_keep HTa.out.2.1 hb, blk_keep HTa.out.2.2 hb⟩
        have OS := TW.hide (OS.out.below hb)
        have BB : Hid (Below w4.heap.size w4 W1b) := BB.out.trans (hb.mono BB.out.size)
        refine HK.out _ _ HT1b.out (fun _ => trivial) ?_
        clear HK KX hb HTa
        try simp only [Act.put, List.setIfInBounds_toArray, List.set_cons_zero, List.set_cons_succ, List.getElem_toArray, List.getElem_cons_zero, List.getElem_cons_succ]
        refine RG.wpL_step (i := 7) (by kernel_rfl) (by rfl) (by rfl) (fun KX hK => ?_)
        have HK := TW.hide hK
        clear hK
        go_simp
        refine (HCb.out _ (HB4.out.trans (BB.out.mono HB4.out.size))).mono ?_
        rintro ex2 W2b ⟨vb, xb, rfl, hrest, hol, hb⟩
        have OLb := TW.hide (hol.base (B' := w4.heap.size) BB.out.size)
        have HT2b : Hid (W2b.heap[gp]? = some (.cells #[.int .u64 n, .int .u64 s1, .slice (some ⟨gs, 0, none⟩) k cs] 37 (0, 0)) ∧ W2b.heap[gw]? = some (.cells #[.int .i64 T.k, .int .i64 T.d, .int .i64 T.f, .int .i64 T.dp, .int .u32 T.lf, .int .i64 T.inn, .slice T.ka T.kl T.kc, .slice T.sa T.sl T.sc, .slice T.pa T.pl T.pc, .int .u64 n, .int .i64 s0, .int .u64 s1, .int .u64 s2, .int .u64 s3, .bool s4, .bool s5, .slice (some ⟨g, 0, none⟩) k cp] 53 (0, 0)) ∧ W2b.heap[gf]? = some (.cells #[.int .i64 x0, .int .u64 x1, .int .u64 F, .int .u64 E, .bool x4, .bool x5, .int .u64 C] 74 (0, 0))) := ⟨blk_keep HT1b.out.1 hb, blk_keep HT1b.out.2.1 hb, blk_keep HT1b.out.2.2 hb⟩
        have OS := TW.hide (OS.out.below hb)
        have BB : Hid (Below w4.heap.size w4 W2b) := BB.out.trans (hb.mono BB.out.size)
        obtain ⟨ab, kb, rfl, _⟩ := hol.one
        have RXb := TW.hide hrest
        refine HK.out _ _ HT2b.out (fun _ => trivial) ?_
        clear HK KX hb HT1b hol hrest
        try simp only [Act.put, List.setIfInBounds_toArray, List.set_cons_zero, List.set_cons_succ, List.getElem_toArray, List.getElem_cons_zero, List.getElem_cons_succ]
        refine RG.wpL_take (fuel := 2) (a' := ?Abb) [8, 9, 10, 11, 12] (by kernel_rfl) (by kernel_rfl) (fun _ _ _ _ _ h => h) HT2b.out (fun _ => trivial) ?rbb ?_
        case rbb =>
          refine RG.RunsIf.weak (v := ?_) (by rfl) (by rfl) (fun Z hT => ?_) ?_
          rotate_left
          · go_simp
            rfl
          simp only [Act.put, List.setIfInBounds_toArray, List.set_cons_zero, List.set_cons_succ, List.getElem_toArray, List.getElem_cons_zero, List.getElem_cons_succ]
          refine RG.RunsIf.weak (v := ?_) (by rfl) (by rfl) (fun Z hT => ?_) ?_
          rotate_left
          · go_simp
            rfl
          simp only [Act.put, List.setIfInBounds_toArray, List.set_cons_zero, List.set_cons_succ, List.getElem_toArray, List.getElem_cons_zero, List.getElem_cons_succ]
          refine RG.RunsIf.weak (v := ?_) (by rfl) (by rfl) (fun Z hT => ?_) ?_
          rotate_left
          · go_simp
            rfl
          simp only [Act.put, List.setIfInBounds_toArray, List.set_cons_zero, List.set_cons_succ, List.getElem_toArray, List.getElem_cons_zero, List.getElem_cons_succ]
          refine RG.RunsIf.weak (v := ?_) (by rfl) (by rfl) (fun Z hT => ?_) ?_
          rotate_left
          · go_simp
            rfl
          simp only [Act.put, List.setIfInBounds_toArray, List.set_cons_zero, List.set_cons_succ, List.getElem_toArray, List.getElem_cons_zero, List.getElem_cons_succ]
          refine RG.RunsIf.weak (v := ?_) (by rfl) (by rfl) (fun Z hT => ?_) ?_
          rotate_left
          · go_simp
            rfl
          simp only [Act.put, List.setIfInBounds_toArray, List.set_cons_zero, List.set_cons_succ, List.getElem_toArray, List.getElem_cons_zero, List.getElem_cons_succ]
          exact RG.RunsIf.nil
        obtain ⟨zc, hzc⟩ := own2_cell OS.out.own (j * 2 + 1) (by have := HLT.out; omega)
        have hfz : W2b.frozen? ⟨gs, j * 2 + 1, none⟩ = false := OS.out.own.frozenAt _
        have HT3b : Hid ((W2b.setCell ⟨gs, j * 2 + 1, none⟩ (.slice ab (dgL zs ps2 m q2n).length kb)).heap[gp]? = some (.cells #[.int .u64 n, .int .u64 s1, .slice (some ⟨gs, 0, none⟩) k cs] 37 (0, 0)) ∧ (W2b.setCell ⟨gs, j * 2 + 1, none⟩ (.slice ab (dgL zs ps2 m q2n).length kb)).heap[gw]? = some (.cells #[.int .i64 T.k, .int .i64 T.d, .int .i64 T.f, .int .i64 T.dp, .int .u32 T.lf, .int .i64 T.inn, .slice T.ka T.kl T.kc, .slice T.sa T.sl T.sc, .slice T.pa T.pl T.pc, .int .u64 n, .int .i64 s0, .int .u64 s1, .int .u64 s2, .int .u64 s3, .bool s4, .bool s5, .slice (some ⟨g, 0, none⟩) k cp] 53 (0, 0)) ∧ (W2b.setCell ⟨gs, j * 2 + 1, none⟩ (.slice ab (dgL zs ps2 m q2n).length kb)).heap[gf]? = some (.cells #[.int .i64 x0, .int .u64 x1, .int .u64 F, .int .u64 E, .bool x4, .bool x5, .int .u64 C] 74 (0, 0))) := ⟨blk_other HT2b.out.1 (own_not OS.out.own HT2b.out.1 (by decide)), blk_other HT2b.out.2.1 (own_not OS.out.own HT2b.out.2.1 (by decide)), blk_other HT2b.out.2.2 (own_not OS.out.own HT2b.out.2.2 (by decide))⟩
        have OS3 : Hid (OwS (W2b.setCell ⟨gs, j * 2 + 1, none⟩ (.slice ab (dgL zs ps2 m q2n).length kb)) w4.heap.size (.slice (some ⟨gs, 0, none⟩) k cs) k (FJ UP (j + 1)) (xsb.set (j * 2 + 1) (.slice ab (dgL zs ps2 m q2n).length kb))) := OS.out.put1 HLT.out (by rw [HF4.out]; exact OLb.out) HF5.out HF6.out
        have BB3 : Hid (Below w4.heap.size w4 (W2b.setCell ⟨gs, j * 2 + 1, none⟩ (.slice ab (dgL zs ps2 m q2n).length kb))) := BB.out.setCell (p := ⟨gs, j * 2 + 1, none⟩) HGS.out _
        refine RG.wpL_step (i := 13) (by kernel_rfl) (by rfl) (by rfl) (fun KX hK => ?_)
        have HK := TW.hide hK
        clear hK
        go_simp
        refine HK.out _ _ HT3b.out (fun _ => trivial) ?_
        clear HK KX HT2b OS BB OLb hzc hfz
        generalize World.setCell _ _ _ = W3b at *
        try simp only [Act.put, List.setIfInBounds_toArray, List.set_cons_zero, List.set_cons_succ, List.getElem_toArray, List.getElem_cons_zero, List.getElem_cons_succ]
        refine RG.wpL_take (fuel := 0) (a' := ?Acb) [14] (by kernel_rfl) (by kernel_rfl) (fun _ _ _ _ _ h => h) HT3b.out (fun _ => trivial) ?rcb ?_
        case rcb =>
          refine RG.RunsIf.weak (v := ?_) (by rfl) (by rfl) (fun Z hT => ?_) ?_
          rotate_left
          · go_simp
            rfl
          simp only [Act.put, List.setIfInBounds_toArray, List.set_cons_zero, List.set_cons_succ, List.getElem_toArray, List.getElem_cons_zero, List.getElem_cons_succ]
          exact RG.RunsIf.nil
        refine RG.wpL_done (by kernel_rfl) ?_ _
        refine NoPanic.normal ?_

        go_wp2
        go_roundw
        case rel =>
          exact ⟨j + 1, _, HLT.out, by rw [HPS3.out]; exact RXb.out, by go_num, OS3.out, HT3b.out.1, BB3.out⟩
        case measure => simp [intOf]; have := HLT.out; omega
      · obtain rfl : j = k := by omega
        have N1 := TW.hide (blk_keep N1.out hbb)
        have NBz : Hid (Below w.heap.size w wr) := HB4.out.trans (hbb.mono HB4.out.size)
        have OZ : Hid (OwS wr w4.heap.size (.slice (some ⟨gs, 0, none⟩) j cs) j UP xsa) := hos.congr (fun i hi => by unfold FJ; rw [if_pos hi])
        obtain ⟨p0, p1, p2⟩ := cellsP3 hgp
        clear hos hgp hbb hrx
        go_wp2
        refine HK.out _ _ ?_
        clear HK
        go_wp2_with (refine wpList_store_row (by rfl) 37 _ _ (by rfl) (w.heap.size + 1) #[.int .u64 n, .int .u64 s1, .slice (some ⟨gs, 0, none⟩) j cs] (by rfl) (by rfl) 37 _ N1.out (by kernel_rfl) (by rfl) (by simp [Value.oneCell']) ?_)
        refine bodyPost_ret (v := .tuple #[.agg #[.int .u64 n, .int .u64 s1, .slice (some ⟨gs, 0, none⟩) j cs], .int .i64 0]) (results_row_tmp (P := Try.prog) Try.results10 _ _ (w.heap.size + 1) 37 _ (0, 0) _ _ (by rfl) (by rfl) (setRow_heap _ _ _ _ _ _ N1.out) Try.underlying37 rfl (by kernel_rfl)) rfl ?_
        refine ⟨_, xsa, by rw [HS1.out], ?_, below_setRow NBz.out (by omega)⟩
        have hlt4 : w.heap.size + 1 < w4.heap.size := HN1L.out
        exact (OZ.out.setR hlt4).base (by omega)
  clear HK
  subst hfr
  go_wp2
  · obtain rfl : cap = 16 := by assumption
    exact HC.out _ (.inr ⟨by omega, _, rfl⟩)
  · exact HC.out _ (.inl rfl)
end LW
end Go.Proofs.Ytcpegipojkbcoaa
namespace Go.Proofs.Ytcpegipojkbcoaa
open Go.ChangeShapes Go.WideShapes Go.ChangeAt Go.RowKit Go.Deep
set_option linter.unusedVariables false
set_option linter.unusedSimpArgs false
namespace LW
open Words
theorem hoE_3 {zl m z : Nat} (h : (zl - 16) / m < z) : hoE (zl - 16) m z = 3 := by unfold hoE; rw [if_pos h]
theorem hoE_9 {zl m z : Nat} (hm : 1 ≤ m) (hz : 16 ≤ zl) (h : ¬ (zl - 16) / m < z) (h2 : 16 + z * m < zl) : hoE (zl - 16) m z = 9 := by
  unfold hoE
  rw [if_neg h, if_pos]
  have h3 := Nat.div_add_mod (zl - 16) m
  rcases Nat.lt_or_ge z ((zl - 16) / m) with h4 | h4
  · exact .inl h4
  · right
    intro h5
    have h6 : (zl - 16) / m = z := by omega
    rw [h6, h5, Nat.mul_comm] at h3
    omega
theorem hoE_0 {zl m z : Nat} (hm : 1 ≤ m) (hz : 16 ≤ zl) (h : ¬ (zl - 16) / m < z) (h2 : ¬ 16 + z * m < zl) : hoE (zl - 16) m z = 0 ∧ 16 + z * m = zl := by
  have h3 := Nat.div_add_mod (zl - 16) m
  have h4 : z * m ≤ (zl - 16) / m * m := Nat.mul_le_mul_right _ (by omega)
  rw [Nat.mul_comm m] at h3
  have h7 : ¬ z < (zl - 16) / m := fun h8 => by
    have h9 : (z + 1) * m ≤ (zl - 16) / m * m := Nat.mul_le_mul_right _ h8
    rw [Nat.succ_mul] at h9
    omega
  unfold hoE
  rw [if_neg h, if_neg]
  · exact ⟨rfl, by omega⟩
  · rintro (h5 | h5)
    · exact h7 h5
    · omega
theorem punpackO (T : Tr) (hT : 0 ≤ T.lf ∧ T.lf < 4294967296) (a : Option Addr) (cap : Nat) (zs : List Int) (w : World) (hz : Byt zs) (hr : Row w a zs) (hl : zs.length ≤ 1048576) (hcap : zs.length ≤ cap) :
    Calls Try.prog 10 #[.agg (trC T), .slice a zs.length cap] w (UnpO T zs w) := by
  have HV := fun W => valid T W
  have n0 : ((tt zs : Nat) : Int) = (ld zs 0 8).1 := (ld_num zs hz 0).1
  have m0 : tt zs < 18446744073709551616 := (ld_num zs hz 0).2
  have n8 : ((ll zs : Nat) : Int) = (ld zs 8 8).1 := (ld_num zs hz 8).1
  by_cases hv : vd T = 0
  · rw [hv] at HV
    by_cases h16 : zs.length < 16
    · have he : upE T zs = 3 := by unfold upE; rw [if_neg (by simp [hv]), if_pos h16]
      exact (punp2 T a zs.length cap w h16 HV).mono fun e w' h => unpE he (by decide) h
    · obtain ⟨b, off, rfl⟩ : ∃ b off, a = some ⟨b, off, none⟩ := by
        rcases hr with h | ⟨b, off, e, _⟩
        · rw [h] at h16; simp at h16
        · exact ⟨b, off, e⟩
      have hL := fun (at_ : Int) (h0 : 0 ≤ at_) (h1 : at_ ≤ 8) W (hW : Below w.heap.size w W) => load64 (some ⟨b, off, none⟩) cap zs at_ W hz (hr.below hW) (Nat.le_trans hl (by unfold maxLen; omega)) (by omega) (by omega)
      have H0 := hL 0 (by omega) (by omega)
      have H8 := hL 8 (by omega) (by omega)
      obtain ⟨z0, z8⟩ := ld_long16 (by omega : 16 ≤ zs.length)
      rw [z0, ← n0] at H0
      rw [z8, ← n8] at H8
      by_cases hw : waE T (tt zs) (ll zs) = 0
      · have hin := vd_inn hv
        have hmi : T.inn = ((T.inn.toNat : Nat) : Int) := by omega
        have hlE : lvE T (tt zs) = 0 ∧ ll zs < (roL T (tt zs)).getD 0 0 := by
          rcases waE_cases T (tt zs) (ll zs) with ⟨_, h1, h2⟩ | ⟨h0, _⟩
          · exact ⟨h1, h2⟩
          · exact absurd hw h0
        have hR := rwsT hT m0 hlE.1
        have h2 := hR.two
        have h255 := hR.most
        have hszb : szF T (tt zs) (ll zs) < 18446744073709551616 := by
          unfold szF
          rw [if_pos hw]
          exact Nat.mod_lt _ (by omega)
        have hzz : szF T (tt zs) (ll zs) = szN T (tt zs) (roL T (tt zs)) (ll zs) ((roL T (tt zs)).length - 1) % 18446744073709551616 := by unfold szF; rw [if_pos hw]
        have HF := fun W => findOk_ T hT (tt zs) m0 (ll zs) hw W
        have HH := fun (s0 s1 s2 s3 : Int) (s4 s5 : Bool) (g cp : Nat) W (hf : Fk W g ((roL T (tt zs)).length - 1) (aw T (roL T (tt zs)) (ll zs)) (wF T (roL T (tt zs)) (ll zs)) (wT T (tt zs) (roL T (tt zs)) (ll zs))) => holds_ T (tt zs) s0 s1 s2 s3 s4 s5 g ((roL T (tt zs)).length - 1) cp (zs.length - 16) T.inn.toNat (szF T (tt zs) (ll zs)) _ _ _ W hmi (by omega) (by omega) (by omega) hszb hf (fun W' hf' => by rw [hzz]; exact digests_ T (tt zs) s0 s1 s2 s3 s4 s5 g _ cp _ _ _ (szN T (tt zs) (roL T (tt zs)) (ll zs)) W' hf' (by omega) (fun i hi => step_nums hT m0 hw i hi) rfl (fun i => rfl))
        by_cases hh : (zs.length - 16) / T.inn.toNat < szF T (tt zs) (ll zs)
        · have he : upE T zs = 3 := by unfold upE; rw [if_neg (by simp [hv]), if_neg h16, if_neg (by simp [hw]), if_pos hh]
          rw [hoE_3 hh] at HH
          exact (punp4 T b off zs.length cap w (tt zs) (ll zs) _ _ _ _ 3 (by decide) (by omega) hcap HV H0 H8 HF HH).mono fun e w' h => unpE he (by decide) h
        · by_cases hm : 16 + szF T (tt zs) (ll zs) * T.inn.toNat < zs.length
          · have he : upE T zs = 9 := by unfold upE; rw [if_neg (by simp [hv]), if_neg h16, if_neg (by simp [hw]), if_neg hh, if_pos hm]
            rw [hoE_9 (by omega) (by omega) hh hm] at HH
            exact (punp4 T b off zs.length cap w (tt zs) (ll zs) _ _ _ _ 9 (by decide) (by omega) hcap HV H0 H8 HF HH).mono fun e w' h => unpE he (by decide) h
          · have he : upE T zs = 0 := by unfold upE; rw [if_neg (by simp [hv]), if_neg h16, if_neg (by simp [hw]), if_neg hh, if_neg hm]
            obtain ⟨hho, heq⟩ := hoE_0 (by omega) (by omega) hh hm
            rw [hho] at HH
            have hse := sz_eq hT m0 hw
            refine (punpK T b off zs.length cap w (tt zs) (ll zs) ((roL T (tt zs)).length - 1) T.inn.toNat zs (aw T (roL T (tt zs)) (ll zs)) (wF T (roL T (tt zs)) (ll zs)) (wT T (tt zs) (roL T (tt zs)) (ll zs)) (szN T (tt zs) (roL T (tt zs)) (ll zs)) (upT T (tt zs) (roL T (tt zs)) (ll zs) T.inn.toNat zs) (by omega) hcap (by omega) (by omega) HV H0 H8 HF HH (fun i hi => step_nums hT m0 hw i hi) rfl (fun i hi => szN_succ (lvE_ok hlE.1) hR hlE.2 i (by omega)) (fun i hi => ?_) (fun i => rfl) (fun s0 s1 s2 s3 s4 s5 g cp p q W hW hpq x hx => cut_ T (tt zs) s0 s1 s2 s3 s4 s5 g _ cp b off cap p q T.inn.toNat zs W hmi (by omega) (by omega) (hr.below hW) hl hcap hpq x hx)).mono ?_
            · rw [← heq, hse]
              have h3 := szN_mono T (tt zs) (roL T (tt zs)) (ll zs) i ((roL T (tt zs)).length - 1 - i)
              rw [show i + ((roL T (tt zs)).length - 1 - i) = (roL T (tt zs)).length - 1 by omega] at h3
              have h4 := Nat.mul_le_mul_right T.inn.toNat h3
              omega
            · rintro e w' ⟨v, xs, rfl, ho, hb⟩
              have hS : upS T zs = (List.range ((roL T (tt zs)).length - 1)).map (upT T (tt zs) (roL T (tt zs)) (ll zs) T.inn.toNat zs) := by unfold upS; rw [if_pos he]
              refine ⟨v, xs, _, _, ?_, ho, hS, hb⟩
              unfold upt upl
              rw [if_pos he, if_pos he, he]
      · have he : upE T zs = waE T (tt zs) (ll zs) := by unfold upE; rw [if_neg (by simp [hv]), if_neg h16, if_pos hw]
        exact (punp3 T b off zs.length cap w (tt zs) (ll zs) _ hw (by omega) HV H0 H8 (fun W => findE_ T hT (tt zs) m0 (ll zs) hw W)).mono fun e w' h => unpE he hw h
  · have he : upE T zs = vd T := by unfold upE; rw [if_pos hv]
    exact (punp1 T a zs.length cap w (vd T) hv HV).mono fun e w' h => unpE he hv h
theorem punpack : PUnpack := fun T hT a cap zs w hz hr hl hcap => (punpackO T hT a cap zs w hz hr hl hcap).mono fun _ _ h => h.p
set_option maxRecDepth 100000 in
theorem packsT {H : Type} {enc : TypeId × Value → H} {r r1 r2 : Reach} {b0 b1 b2 : Nat} {d0 d1 d2 : DataW H} {p0 p1 p2 : List MemPlace} (v0 v1 v2 : Value) (W : World)
    (hv0 : Value.okWide Try.prog W r b0 26 v0) (h0 : DataW.Trod enc Try.prog W 0 (fun _ => true) true 26 v0 d0 p0) (hB0 : Rows.uptoBulk d0 ≤ 1048576)
    (hv1 : Value.okWide Try.prog W r1 b1 37 v1) (h1 : DataW.Trod enc Try.prog W 0 (fun _ => true) true 37 v1 d1 p1) (hB1 : Rows.uptoBulk d1 ≤ 1048576)
    (hv2 : Value.okWide Try.prog W r2 b2 24 v2) (h2 : DataW.Trod enc Try.prog W 0 (fun _ => true) true 24 v2 d2 p2) (hB2 : Rows.uptoBulk d2 ≤ 1048576) :
    Calls Try.prog 4 #[v0, v1, v2] W fun e w' => e = .returned (.bool true) ∧ Below W.heap.size W w' :=
  packsF psize ppack punpack v0 v1 v2 W hv0 h0 hB0 hv1 h1 hB1 hv2 h2 hB2
end LW
end Go.Proofs.Ytcpegipojkbcoaa
