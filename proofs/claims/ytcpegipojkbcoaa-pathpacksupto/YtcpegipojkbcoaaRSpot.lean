/-
  What Spot of the document gives.
-/
import Derived.Test.YtcpegipojkbcoaaSpot
import Derived.Test.YtcpegipojkbcoaaRRow
import Derived.Test.YtcpegipojkbcoaaNumArgs
namespace Go.Proofs.Ytcpegipojkbcoaa
open Go.RowKit
set_option linter.unusedVariables false
set_option linter.unusedSimpArgs false
namespace LW
open Words
set_option maxRecDepth 100000 in
set_option maxHeartbeats 2000000 in
theorem rspotE (T : Tr) (hT : 0 ≤ T.lf ∧ T.lf < 4294967296) (n : Nat) (hn : n < 18446744073709551616) (hE : lvE T n ≠ 0) (r : Int) (at_ : Nat) (w : World) : Calls Try.prog 37 #[.agg (trC T), .int .u64 n, .int .i64 r, .int .u64 at_] w fun e w' => e = .returned (.tuple #[.agg (spC 0 0 0 0 false false), .int .i64 (lvE T n)]) ∧ Below w.heap.size w w' := by
  have HL := TW.hide (fun W => rrowsE T hT n hn hE W)
  rw [sp0]
  generalize lvE T n = v at *
  unfold trC at *
  have n0 := heap_alloc_new w (.cells #[.int .i64 T.k, .int .i64 T.d, .int .i64 T.f, .int .i64 T.dp, .int .u32 T.lf, .int .i64 T.inn, .slice T.ka T.kl T.kc, .slice T.sa T.sl T.sc, .slice T.pa T.pl T.pc] 26)
  have hb0 := (Below.refl w.heap.size w).alloc (Nat.le_refl _) (.cells #[.int .i64 T.k, .int .i64 T.d, .int .i64 T.f, .int .i64 T.dp, .int .u32 T.lf, .int .i64 T.inn, .slice T.ka T.kl T.kc, .slice T.sa T.sl T.sc, .slice T.pa T.pl T.pc] 26)
  have n1 := heap_alloc_new (w.alloc (.cells #[.int .i64 T.k, .int .i64 T.d, .int .i64 T.f, .int .i64 T.dp, .int .u32 T.lf, .int .i64 T.inn, .slice T.ka T.kl T.kc, .slice T.sa T.sl T.sc, .slice T.pa T.pl T.pc] 26)) (.cells #[.int .i64 0, .int .u64 0, .int .u64 0, .int .u64 0, .bool false, .bool false] 50)
  rw [show (w.alloc (.cells #[.int .i64 T.k, .int .i64 T.d, .int .i64 T.f, .int .i64 T.dp, .int .u32 T.lf, .int .i64 T.inn, .slice T.ka T.kl T.kc, .slice T.sa T.sl T.sc, .slice T.pa T.pl T.pc] 26)).heap.size = w.heap.size + 1 by simp] at n1
  have n0 := blk_alloc (o' := .cells #[.int .i64 0, .int .u64 0, .int .u64 0, .int .u64 0, .bool false, .bool false] 50) n0
  have hb1 := hb0.alloc hb0.size (.cells #[.int .i64 0, .int .u64 0, .int .u64 0, .int .u64 0, .bool false, .bool false] 50)
  have N0 := TW.hide n0
  have N1 := TW.hide n1
  have B0 := TW.hide hb1
  clear n0 n1 hb0 hb1
  go_enter Try.func37, Try.ntmps37
  refine wp_seq_k fun K hK => ?_
  have HK := TW.hide hK
  clear hK
  go_wp2_with fail
  refine HK.out _ _ ?_
  clear HK K
  generalize (w.alloc _).alloc _ = X at *
  generalize hB : w.heap.size = B at *
  have HBB := TW.hide hB
  clear hB
  obtain ⟨c0, c1, c2, c3, c4, c5, c6, c7, c8⟩ := cells9 N0.out
  go_wp2_with fail
  refine (HL.out _).mono ?_
  rintro e1 w1 ⟨rfl, hb⟩
  clear c0 c1 c2 c3 c4 c5 c6 c7 c8
  have N0 := TW.hide (blk_keep N0.out hb)
  have N1 := TW.hide (blk_keep N1.out hb)
  have B2 : Hid (Below B w w1) := B0.out.trans (hb.mono (by have := B0.out.size; have := HBB.out; omega))
  clear B0 hb
  have hv' : (v != 0) = true := by simp [hE]
  go_wp2_with (refine wpList_store_row (by rfl) 50 _ _ (by rfl) (B + 1) #[.int .i64 0, .int .u64 0, .int .u64 0, .int .u64 0, .bool false, .bool false] (by rfl) (by rfl) 50 _ N1.out (by kernel_rfl) (by rfl) (by simp [Value.oneCell']) ?_)
  refine bodyPost_ret (v := .tuple #[.agg #[.int .i64 0, .int .u64 0, .int .u64 0, .int .u64 0, .bool false, .bool false], .int .i64 v]) (results_row_tmp (P := Try.prog) Try.results37 _ _ (B + 1) 50 _ (0, 0) _ _ (by rfl) (by rfl) (setRow_heap _ _ _ _ _ _ N1.out) Try.underlying50 rfl (by kernel_rfl)) rfl ?_
  exact ⟨rfl, below_setRow B2.out (by omega)⟩
set_option maxRecDepth 100000 in
set_option maxHeartbeats 2000000 in
theorem rspotN (T : Tr) (hT : 0 ≤ T.lf ∧ T.lf < 4294967296) (n : Nat) (hn : n < 18446744073709551616) (hE : lvE T n = 0) (r : Int) (at_ : Nat) (hh : ¬ Has (roL T n) r at_) (w : World) : Calls Try.prog 37 #[.agg (trC T), .int .u64 n, .int .i64 r, .int .u64 at_] w fun e w' => e = .returned (.tuple #[.agg (spC 0 0 0 0 false false), .int .i64 6]) ∧ Below w.heap.size w w' := by
  have HL := TW.hide (fun W => rrowsOk T hT n hn hE W)
  have hne : roL T n ≠ [] := by unfold roL; simp
  have h255 := (rws (T := T) (m := lv T n) (lvE_ok hE) (by unfold lv; omega) (lv_lt T n (by have := vd_ok (lvE_ok hE); omega) hn)).most
  rw [show lv T n :: ab T.f T.dp (T.dp.toNat - 1) 1 (lv T n) = roL T n from rfl] at h255
  unfold RoP at HL
  have HOW : Hid (∀ (W : World) (B : Nat) (v : Value), W.ownsRow B 27 1 v (roL T n).length (us (roL T n)) → ∃ a cap, v = .slice a (roL T n).length cap ∧ UR W a (roL T n)) := fun W B v h => ur_own hne h
  have HUR : Hid (∀ (W : World) (a : Option Addr), UR W a (roL T n) → ∃ b, a = some ⟨b, 0, none⟩ ∧ ∀ i, i < (roL T n).length → W.cell? ⟨b, i, none⟩ = some (.int .u64 ((roL T n).getD i 0 : Nat))) := fun W a h => by obtain ⟨b, e, _, h⟩ := h; exact ⟨b, e, h⟩
  rw [sp0]
  unfold Has at hh
  clear hE hne h255
  generalize roL T n = R at *
  generalize hlen : R.length = len at *
  clear hlen
  have HH := TW.hide hh
  clear hh
  unfold trC at *
  have n0 := heap_alloc_new w (.cells #[.int .i64 T.k, .int .i64 T.d, .int .i64 T.f, .int .i64 T.dp, .int .u32 T.lf, .int .i64 T.inn, .slice T.ka T.kl T.kc, .slice T.sa T.sl T.sc, .slice T.pa T.pl T.pc] 26)
  have hb0 := (Below.refl w.heap.size w).alloc (Nat.le_refl _) (.cells #[.int .i64 T.k, .int .i64 T.d, .int .i64 T.f, .int .i64 T.dp, .int .u32 T.lf, .int .i64 T.inn, .slice T.ka T.kl T.kc, .slice T.sa T.sl T.sc, .slice T.pa T.pl T.pc] 26)
  have n1 := heap_alloc_new (w.alloc (.cells #[.int .i64 T.k, .int .i64 T.d, .int .i64 T.f, .int .i64 T.dp, .int .u32 T.lf, .int .i64 T.inn, .slice T.ka T.kl T.kc, .slice T.sa T.sl T.sc, .slice T.pa T.pl T.pc] 26)) (.cells #[.int .i64 0, .int .u64 0, .int .u64 0, .int .u64 0, .bool false, .bool false] 50)
  rw [show (w.alloc (.cells #[.int .i64 T.k, .int .i64 T.d, .int .i64 T.f, .int .i64 T.dp, .int .u32 T.lf, .int .i64 T.inn, .slice T.ka T.kl T.kc, .slice T.sa T.sl T.sc, .slice T.pa T.pl T.pc] 26)).heap.size = w.heap.size + 1 by simp] at n1
  have n0 := blk_alloc (o' := .cells #[.int .i64 0, .int .u64 0, .int .u64 0, .int .u64 0, .bool false, .bool false] 50) n0
  have hb1 := hb0.alloc hb0.size (.cells #[.int .i64 0, .int .u64 0, .int .u64 0, .int .u64 0, .bool false, .bool false] 50)
  have N0 := TW.hide n0
  have N1 := TW.hide n1
  have B0 := TW.hide hb1
  clear n0 n1 hb0 hb1
  go_enter Try.func37, Try.ntmps37
  refine wp_seq_k fun K hK => ?_
  have HK := TW.hide hK
  clear hK
  go_wp2_with fail
  refine HK.out _ _ ?_
  clear HK K
  generalize (w.alloc _).alloc _ = X at *
  generalize hB : w.heap.size = B at *
  have HBB := TW.hide hB
  clear hB
  obtain ⟨c0, c1, c2, c3, c4, c5, c6, c7, c8⟩ := cells9 N0.out
  refine wp_seq_k fun K hK => ?_
  have HK := TW.hide hK
  clear hK
  go_wp2_with fail
  refine (HL.out _).mono ?_
  rintro e1 w1 ⟨v1, rfl, hown, hb⟩
  obtain ⟨a1, cap1, rfl, hur⟩ := HOW.out _ _ _ hown
  obtain ⟨b1, rfl, hcell⟩ := HUR.out _ _ hur
  have HC := TW.hide hcell
  clear hown hur hcell HOW HUR HL c0 c1 c2 c3 c4 c5 c6 c7 c8
  have N0 := TW.hide (blk_keep N0.out hb)
  have N1 := TW.hide (blk_keep N1.out hb)
  have B2 : Hid (Below B w w1) := B0.out.trans (hb.mono (by have := B0.out.size; have := HBB.out; omega))
  clear B0 hb
  go_wp2
  refine HK.out _ _ ?_
  clear HK K
  refine wp_seq_k fun K hK => ?_
  have HK := TW.hide hK
  clear hK
  go_wp2
  refine HK.out _ _ ?_
  clear HK K
  refine wp_seq_k fun K hK => ?_
  have HK := TW.hide hK
  clear hK
  by_cases h1 : r < 0
  · go_wp2_with (refine wpList_store_row (by rfl) 50 _ _ (by rfl) (B + 1) #[.int .i64 0, .int .u64 0, .int .u64 0, .int .u64 0, .bool false, .bool false] (by rfl) (by rfl) 50 _ N1.out (by kernel_rfl) (by rfl) (by simp [Value.oneCell']) ?_)
    refine bodyPost_ret (v := .tuple #[.agg #[.int .i64 0, .int .u64 0, .int .u64 0, .int .u64 0, .bool false, .bool false], .int .i64 6]) (results_row_tmp (P := Try.prog) Try.results37 _ _ (B + 1) 50 _ (0, 0) _ _ (by rfl) (by rfl) (setRow_heap _ _ _ _ _ _ N1.out) Try.underlying50 rfl (by kernel_rfl)) rfl ?_
    exact ⟨rfl, below_setRow B2.out (by omega)⟩
  · by_cases h2 : (len : Int) ≤ r
    · go_wp2_with (refine wpList_store_row (by rfl) 50 _ _ (by rfl) (B + 1) #[.int .i64 0, .int .u64 0, .int .u64 0, .int .u64 0, .bool false, .bool false] (by rfl) (by rfl) 50 _ N1.out (by kernel_rfl) (by rfl) (by simp [Value.oneCell']) ?_)
      refine bodyPost_ret (v := .tuple #[.agg #[.int .i64 0, .int .u64 0, .int .u64 0, .int .u64 0, .bool false, .bool false], .int .i64 6]) (results_row_tmp (P := Try.prog) Try.results37 _ _ (B + 1) 50 _ (0, 0) _ _ (by rfl) (by rfl) (setRow_heap _ _ _ _ _ _ N1.out) Try.underlying50 rfl (by kernel_rfl)) rfl ?_
      exact ⟨rfl, below_setRow B2.out (by omega)⟩
    · obtain ⟨i, rfl⟩ : ∃ i : Nat, r = (i : Int) := ⟨r.toNat, by omega⟩
      have d := HC.out i (by omega)
      have hle : ((R.getD i 0 : Nat) : Int) ≤ (at_ : Int) := by
        have := HH.out
        rw [Int.toNat_natCast] at this
        omega
      clear HC HH
      generalize R.getD i 0 = q at *
      have h0 : (0 : Int) ≤ (i : Int) := by omega
      have h3 : (i : Int) < (len : Int) := by omega
      go_wp2_with (refine wpList_store_row (by rfl) 50 _ _ (by rfl) (B + 1) #[.int .i64 0, .int .u64 0, .int .u64 0, .int .u64 0, .bool false, .bool false] (by rfl) (by rfl) 50 _ N1.out (by kernel_rfl) (by rfl) (by simp [Value.oneCell']) ?_)
      refine bodyPost_ret (v := .tuple #[.agg #[.int .i64 0, .int .u64 0, .int .u64 0, .int .u64 0, .bool false, .bool false], .int .i64 6]) (results_row_tmp (P := Try.prog) Try.results37 _ _ (B + 1) 50 _ (0, 0) _ _ (by rfl) (by rfl) (setRow_heap _ _ _ _ _ _ N1.out) Try.underlying50 rfl (by kernel_rfl)) rfl ?_
      exact ⟨rfl, below_setRow B2.out (by omega)⟩
end LW
end Go.Proofs.Ytcpegipojkbcoaa
