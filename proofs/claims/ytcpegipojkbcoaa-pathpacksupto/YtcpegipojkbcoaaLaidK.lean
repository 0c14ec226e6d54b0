/-
  What the search gives for a message that lies in a tree.
-/
import Derived.Test.YtcpegipojkbcoaaLaid
namespace Go.Proofs.Ytcpegipojkbcoaa
open Go.RowKit
set_option linter.unusedVariables false
set_option linter.unusedSimpArgs false
namespace LW
open Words
set_option maxRecDepth 100000 in
set_option maxHeartbeats 2000000 in
theorem laidOk (T : Tr) (hT : 0 ≤ T.lf ∧ T.lf < 4294967296) (n : Nat) (hn : n < 18446744073709551616) (hE : lvE T n = 0) (r : Int) (at_ : Nat) (w : World) : Calls Try.prog 48 #[.agg (trC T), .int .u64 n, .int .i64 r, .int .u64 at_] w fun e w' => e = .returned (.tuple #[.agg (lyC T n (lv T n)), .agg (stC (fdX n (roL T n) r at_).1 (fdX n (roL T n) r at_).2.1 (fdX n (roL T n) r at_).2.2.1 (fdX n (roL T n) r at_).2.2.2), .int .i64 (fdE (roL T n) r at_)]) ∧ Below w.heap.size w w' := by
  have hv := vd_ok (lvE_ok hE)
  have HL := TW.hide (fun W => lay T hT n hn W)
  unfold lyR at HL
  rw [if_pos hE] at HL
  have hm := lv_lt T n (by omega) hn
  have hF := fun W => find T n (lv T n) hv.2.1 ⟨hv.2.2.1, hv.2.2.2.1⟩ hm r at_ W
  rw [show lv T n :: ab T.f T.dp (T.dp.toNat - 1) 1 (lv T n) = roL T n from rfl, fdR_eq] at hF
  have HF := TW.hide hF
  clear hF hm hv
  generalize lv T n = m at *
  generalize (fdX n (roL T n) r at_).1 = x0 at *
  generalize (fdX n (roL T n) r at_).2.1 = x1 at *
  generalize (fdX n (roL T n) r at_).2.2.1 = x2 at *
  generalize (fdX n (roL T n) r at_).2.2.2 = x3 at *
  generalize fdE (roL T n) r at_ = e at *
  clear hE
  unfold trC lyC stC at *
  obtain ⟨W3, hW3, n0, n1, n2, sz3, hb3⟩ := three w (.cells #[.int .i64 T.k, .int .i64 T.d, .int .i64 T.f, .int .i64 T.dp, .int .u32 T.lf, .int .i64 T.inn, .slice T.ka T.kl T.kc, .slice T.sa T.sl T.sc, .slice T.pa T.pl T.pc] 26) (.cells #[.int .i64 0, .int .i64 0, .int .i64 0, .int .i64 0, .int .u32 0, .int .i64 0, .slice none 0 0, .slice none 0 0, .slice none 0 0, .int .u64 0, .int .u64 0] 98) (.cells #[.int .i64 0, .int .u64 0, .int .u64 0, .int .u64 0] 100)
  have HW3 := TW.hide hW3
  clear hW3
  go_enter Try.func48, Try.ntmps48
  refine wp_seq_k fun K hK => ?_
  have HK := TW.hide hK
  clear hK
  go_wp2_with fail
  rw [HW3.out]
  refine HK.out _ _ ?_
  clear HK K
  clear HW3
  simp only [Nat.add_assoc, Nat.reduceAdd]
  generalize hB : w.heap.size = B at *
  have HBB := TW.hide hB
  clear hB
  obtain ⟨c0, c1, c2, c3, c4, c5, c6, c7, c8⟩ := cells9 n0
  have N0 := TW.hide n0
  have N1 := TW.hide n1
  have N2 := TW.hide n2
  have B0 := TW.hide hb3
  have S0 := TW.hide sz3
  clear n0 n1 n2 hb3 sz3
  refine wp_seq_k fun K hK => ?_
  have HK := TW.hide hK
  clear hK
  go_wp2_with fail
  refine (HL.out _).mono ?_
  rintro e1 w1 ⟨rfl, hb⟩
  clear c0 c1 c2 c3 c4 c5 c6 c7 c8
  have BG0 : Hid (B + 3 ≤ w1.heap.size) := by have := hb.size; have := S0.out; show _ ≤ _; omega
  have N0 := TW.hide (blk_keep N0.out hb)
  have N1 := TW.hide (blk_keep N1.out hb)
  have N2 := TW.hide (blk_keep N2.out hb)
  have B1 : Hid (Below B w w1) := B0.out.trans (hb.mono (by have := B0.out.size; have := HBB.out; omega))
  clear B0 hb
  go_wp2
  refine HK.out _ _ ?_
  clear HK K
  have N0 := TW.hide (blk_alloc (o' := .cells #[.int .i64 T.k, .int .i64 T.d, .int .i64 T.f, .int .i64 T.dp, .int .u32 T.lf, .int .i64 T.inn, .slice T.ka T.kl T.kc, .slice T.sa T.sl T.sc, .slice T.pa T.pl T.pc, .int .u64 n, .int .u64 m] 98) N0.out)
  have N1 := TW.hide (blk_alloc (o' := .cells #[.int .i64 T.k, .int .i64 T.d, .int .i64 T.f, .int .i64 T.dp, .int .u32 T.lf, .int .i64 T.inn, .slice T.ka T.kl T.kc, .slice T.sa T.sl T.sc, .slice T.pa T.pl T.pc, .int .u64 n, .int .u64 m] 98) N1.out)
  have N2 := TW.hide (blk_alloc (o' := .cells #[.int .i64 T.k, .int .i64 T.d, .int .i64 T.f, .int .i64 T.dp, .int .u32 T.lf, .int .i64 T.inn, .slice T.ka T.kl T.kc, .slice T.sa T.sl T.sc, .slice T.pa T.pl T.pc, .int .u64 n, .int .u64 m] 98) N2.out)
  have B2 : Hid (Below B w (w1.alloc (.cells #[.int .i64 T.k, .int .i64 T.d, .int .i64 T.f, .int .i64 T.dp, .int .u32 T.lf, .int .i64 T.inn, .slice T.ka T.kl T.kc, .slice T.sa T.sl T.sc, .slice T.pa T.pl T.pc, .int .u64 n, .int .u64 m] 98))) := B1.out.alloc (by have := B1.out.size; have := HBB.out; omega) (.cells #[.int .i64 T.k, .int .i64 T.d, .int .i64 T.f, .int .i64 T.dp, .int .u32 T.lf, .int .i64 T.inn, .slice T.ka T.kl T.kc, .slice T.sa T.sl T.sc, .slice T.pa T.pl T.pc, .int .u64 n, .int .u64 m] 98)
  have G2 := TW.hide (heap_alloc_new w1 (.cells #[.int .i64 T.k, .int .i64 T.d, .int .i64 T.f, .int .i64 T.dp, .int .u32 T.lf, .int .i64 T.inn, .slice T.ka T.kl T.kc, .slice T.sa T.sl T.sc, .slice T.pa T.pl T.pc, .int .u64 n, .int .u64 m] 98))
  clear B1
  generalize w1.alloc _ = V at *
  generalize hg2 : w1.heap.size = g2 at *
  have BG1 := TW.hide BG0.out
  clear hg2 BG0
  refine wp_seq_k fun K hK => ?_
  have HK := TW.hide hK
  clear hK
  go_wp2
  refine HK.out _ _ ?_
  clear HK K
  refine wp_seq_k fun K hK => ?_
  have HK := TW.hide hK
  clear hK
  obtain ⟨c0, c1, c2, c3, c4, c5, c6, c7, c8, c9, c10, _⟩ := cells11 G2.out
  go_wp2_with fail
  refine (HF.out _).mono ?_
  rintro e2 w2 ⟨rfl, hb⟩
  clear c0 c1 c2 c3 c4 c5 c6 c7 c8 c9 c10
  have BG3 : Hid (g2 < w2.heap.size) := by have := hb.size; have := blk_lt G2.out; show _ < _; omega
  have N0 := TW.hide (blk_keep N0.out hb)
  have N1 := TW.hide (blk_keep N1.out hb)
  have N2 := TW.hide (blk_keep N2.out hb)
  have G2 := TW.hide (blk_keep G2.out hb)
  have B3 : Hid (Below B w w2) := B2.out.trans (hb.mono (by have := B2.out.size; have := HBB.out; omega))
  clear B2 hb
  go_wp2
  refine HK.out _ _ ?_
  clear HK K
  have N0 := TW.hide (blk_alloc (o' := .cells #[.int .i64 x0, .int .u64 x1, .int .u64 x2, .int .u64 x3] 100) N0.out)
  have N1 := TW.hide (blk_alloc (o' := .cells #[.int .i64 x0, .int .u64 x1, .int .u64 x2, .int .u64 x3] 100) N1.out)
  have N2 := TW.hide (blk_alloc (o' := .cells #[.int .i64 x0, .int .u64 x1, .int .u64 x2, .int .u64 x3] 100) N2.out)
  have G2 := TW.hide (blk_alloc (o' := .cells #[.int .i64 x0, .int .u64 x1, .int .u64 x2, .int .u64 x3] 100) G2.out)
  have B4 : Hid (Below B w (w2.alloc (.cells #[.int .i64 x0, .int .u64 x1, .int .u64 x2, .int .u64 x3] 100))) := B3.out.alloc (by have := B3.out.size; have := HBB.out; omega) (.cells #[.int .i64 x0, .int .u64 x1, .int .u64 x2, .int .u64 x3] 100)
  have G4 := TW.hide (heap_alloc_new w2 (.cells #[.int .i64 x0, .int .u64 x1, .int .u64 x2, .int .u64 x3] 100))
  clear B3
  generalize w2.alloc _ = U at *
  generalize hg4 : w2.heap.size = g4 at *
  have BG2 := TW.hide BG3.out
  clear hg4 BG3
  refine wp_seq_k fun KQ hK => ?_
  have HQ := TW.hide hK
  clear hK
  have l2 := blk_lt G2.out
  have hne : g4 ≠ B + 1 ∧ g4 ≠ B + 2 ∧ g2 ≠ B + 1 ∧ g2 ≠ B + 2 := by
    have p1 := BG1.out
    have p2 := BG2.out
    omega
  refine wp_region_noPanic ?_
  refine RG.wp_region_L (fun Z => True) (fun Z => Z.heap[g2]? = some (.cells #[.int .i64 T.k, .int .i64 T.d, .int .i64 T.f, .int .i64 T.dp, .int .u32 T.lf, .int .i64 T.inn, .slice T.ka T.kl T.kc, .slice T.sa T.sl T.sc, .slice T.pa T.pl T.pc, .int .u64 n, .int .u64 m] 98 (0, 0)) ∧ Z.heap[g4]? = some (.cells #[.int .i64 x0, .int .u64 x1, .int .u64 x2, .int .u64 x3] 100 (0, 0))) [] (by kernel_rfl) ?_
  refine RG.wpL_any fun Y hY => ?_
  have hH : Y.heap = U.heap := by rw [hY]; rfl
  have HT : Hid (Y.heap[g2]? = some (.cells #[.int .i64 T.k, .int .i64 T.d, .int .i64 T.f, .int .i64 T.dp, .int .u32 T.lf, .int .i64 T.inn, .slice T.ka T.kl T.kc, .slice T.sa T.sl T.sc, .slice T.pa T.pl T.pc, .int .u64 n, .int .u64 m] 98 (0, 0)) ∧ Y.heap[g4]? = some (.cells #[.int .i64 x0, .int .u64 x1, .int .u64 x2, .int .u64 x3] 100 (0, 0))) := by rw [hH]; exact ⟨G2.out, G4.out⟩
  have M1 : Hid (Y.heap[B + 1]? = some (.cells #[.int .i64 0, .int .i64 0, .int .i64 0, .int .i64 0, .int .u32 0, .int .i64 0, .slice none 0 0, .slice none 0 0, .slice none 0 0, .int .u64 0, .int .u64 0] 98 (0, 0))) := by rw [hH]; exact N1.out
  have M2 : Hid (Y.heap[B + 2]? = some (.cells #[.int .i64 0, .int .u64 0, .int .u64 0, .int .u64 0] 100 (0, 0))) := by rw [hH]; exact N2.out
  have BY : Hid (Below B w Y) := by rw [hY]; exact below_drewN B4.out 1
  clear hY hH N0 N1 N2 G2 G4 B4
  refine RG.wpL_take (fuel := 3) (a' := ?Aa) [0, 1, 2] (by kernel_rfl) (by kernel_rfl) (fun _ _ _ _ _ h => h) HT.out (fun _ => trivial) ?ra ?_
  case ra =>
    refine RG.RunsIf.weak (v := .agg #[.int .i64 T.k, .int .i64 T.d, .int .i64 T.f, .int .i64 T.dp, .int .u32 T.lf, .int .i64 T.inn, .slice T.ka T.kl T.kc, .slice T.sa T.sl T.sc, .slice T.pa T.pl T.pc, .int .u64 n, .int .u64 m]) (by rfl) (by rfl) (fun Z hT => exec_load_row' 98 _ (by rfl) g2 (by rfl) 98 #[.int .i64 T.k, .int .i64 T.d, .int .i64 T.f, .int .i64 T.dp, .int .u32 T.lf, .int .i64 T.inn, .slice T.ka T.kl T.kc, .slice T.sa T.sl T.sc, .slice T.pa T.pl T.pc, .int .u64 n, .int .u64 m] (0, 0) _ hT.1 Try.underlying98 rfl (by kernel_rfl)) ?_
    simp only [Act.put, List.setIfInBounds_toArray, List.set_cons_zero, List.set_cons_succ, List.getElem_toArray, List.getElem_cons_zero, List.getElem_cons_succ]
    refine RG.RunsIf.weak (v := .agg #[.int .i64 x0, .int .u64 x1, .int .u64 x2, .int .u64 x3]) (by rfl) (by rfl) (fun Z hT => exec_load_row' 100 _ (by rfl) g4 (by rfl) 100 #[.int .i64 x0, .int .u64 x1, .int .u64 x2, .int .u64 x3] (0, 0) _ hT.2 Try.underlying100 rfl (by kernel_rfl)) ?_
    simp only [Act.put, List.setIfInBounds_toArray, List.set_cons_zero, List.set_cons_succ, List.getElem_toArray, List.getElem_cons_zero, List.getElem_cons_succ]
    refine RG.RunsIf.weak (v := ?_) (by rfl) (by rfl) (fun Z hT => ?_) ?_
    rotate_left
    · go_simp
      rfl
    simp only [Act.put, List.setIfInBounds_toArray, List.set_cons_zero, List.set_cons_succ, List.getElem_toArray, List.getElem_cons_zero, List.getElem_cons_succ]
    exact RG.RunsIf.nil
  refine RG.wpL_step (i := 3) (by kernel_rfl) (by rfl) (by rfl) (fun KX hK => ?_)
  have HK := TW.hide hK
  clear hK
  refine wp_store_row 98 _ _ (by rfl) (B + 1) #[.int .i64 T.k, .int .i64 T.d, .int .i64 T.f, .int .i64 T.dp, .int .u32 T.lf, .int .i64 T.inn, .slice T.ka T.kl T.kc, .slice T.sa T.sl T.sc, .slice T.pa T.pl T.pc, .int .u64 n, .int .u64 m] (by rfl) (by rfl) 98 _ M1.out (by kernel_rfl) (by rfl) (by simp [Value.oneCell']) ?_
  try simp only [Act.put, List.setIfInBounds_toArray, List.set_cons_zero, List.set_cons_succ, List.getElem_toArray, List.getElem_cons_zero, List.getElem_cons_succ]
  have HT2 : Hid ((Y.setRow (B + 1) #[.int .i64 T.k, .int .i64 T.d, .int .i64 T.f, .int .i64 T.dp, .int .u32 T.lf, .int .i64 T.inn, .slice T.ka T.kl T.kc, .slice T.sa T.sl T.sc, .slice T.pa T.pl T.pc, .int .u64 n, .int .u64 m]).heap[g2]? = some (.cells #[.int .i64 T.k, .int .i64 T.d, .int .i64 T.f, .int .i64 T.dp, .int .u32 T.lf, .int .i64 T.inn, .slice T.ka T.kl T.kc, .slice T.sa T.sl T.sc, .slice T.pa T.pl T.pc, .int .u64 n, .int .u64 m] 98 (0, 0)) ∧ (Y.setRow (B + 1) #[.int .i64 T.k, .int .i64 T.d, .int .i64 T.f, .int .i64 T.dp, .int .u32 T.lf, .int .i64 T.inn, .slice T.ka T.kl T.kc, .slice T.sa T.sl T.sc, .slice T.pa T.pl T.pc, .int .u64 n, .int .u64 m]).heap[g4]? = some (.cells #[.int .i64 x0, .int .u64 x1, .int .u64 x2, .int .u64 x3] 100 (0, 0))) := ⟨blk_other' HT.out.1 hne.2.2.1, blk_other' HT.out.2 hne.1⟩
  have M3 := TW.hide (setRow_heap _ _ _ #[.int .i64 T.k, .int .i64 T.d, .int .i64 T.f, .int .i64 T.dp, .int .u32 T.lf, .int .i64 T.inn, .slice T.ka T.kl T.kc, .slice T.sa T.sl T.sc, .slice T.pa T.pl T.pc, .int .u64 n, .int .u64 m] _ _ M1.out)
  have M4 := TW.hide (blk_other' (cs := #[.int .i64 T.k, .int .i64 T.d, .int .i64 T.f, .int .i64 T.dp, .int .u32 T.lf, .int .i64 T.inn, .slice T.ka T.kl T.kc, .slice T.sa T.sl T.sc, .slice T.pa T.pl T.pc, .int .u64 n, .int .u64 m]) M2.out (show B + 2 ≠ B + 1 by omega))
  have BY2 : Hid (Below B w (Y.setRow (B + 1) #[.int .i64 T.k, .int .i64 T.d, .int .i64 T.f, .int .i64 T.dp, .int .u32 T.lf, .int .i64 T.inn, .slice T.ka T.kl T.kc, .slice T.sa T.sl T.sc, .slice T.pa T.pl T.pc, .int .u64 n, .int .u64 m])) := below_setRow BY.out (by omega)
  refine HK.out _ _ HT2.out (fun _ => trivial) ?_
  clear HK KX HT M1 M2 BY
  generalize Y.setRow _ _ = Y2 at *
  refine RG.wpL_step (i := 4) (by kernel_rfl) (by rfl) (by rfl) (fun KX hK => ?_)
  have HK := TW.hide hK
  clear hK
  refine wp_store_row 100 _ _ (by rfl) (B + 2) #[.int .i64 x0, .int .u64 x1, .int .u64 x2, .int .u64 x3] (by rfl) (by rfl) 100 _ M4.out (by kernel_rfl) (by rfl) (by simp [Value.oneCell']) ?_
  try simp only [Act.put, List.setIfInBounds_toArray, List.set_cons_zero, List.set_cons_succ, List.getElem_toArray, List.getElem_cons_zero, List.getElem_cons_succ]
  have HT3 : Hid ((Y2.setRow (B + 2) #[.int .i64 x0, .int .u64 x1, .int .u64 x2, .int .u64 x3]).heap[g2]? = some (.cells #[.int .i64 T.k, .int .i64 T.d, .int .i64 T.f, .int .i64 T.dp, .int .u32 T.lf, .int .i64 T.inn, .slice T.ka T.kl T.kc, .slice T.sa T.sl T.sc, .slice T.pa T.pl T.pc, .int .u64 n, .int .u64 m] 98 (0, 0)) ∧ (Y2.setRow (B + 2) #[.int .i64 x0, .int .u64 x1, .int .u64 x2, .int .u64 x3]).heap[g4]? = some (.cells #[.int .i64 x0, .int .u64 x1, .int .u64 x2, .int .u64 x3] 100 (0, 0))) := ⟨blk_other' HT2.out.1 hne.2.2.2, blk_other' HT2.out.2 hne.2.1⟩
  have M5 := TW.hide (blk_other' (cs := #[.int .i64 x0, .int .u64 x1, .int .u64 x2, .int .u64 x3]) M3.out (show B + 1 ≠ B + 2 by omega))
  have M6 := TW.hide (setRow_heap _ _ _ #[.int .i64 x0, .int .u64 x1, .int .u64 x2, .int .u64 x3] _ _ M4.out)
  have BY3 : Hid (Below B w (Y2.setRow (B + 2) #[.int .i64 x0, .int .u64 x1, .int .u64 x2, .int .u64 x3])) := below_setRow BY2.out (by omega)
  refine HK.out _ _ HT3.out (fun _ => trivial) ?_
  clear HK KX HT2 M3 M4 BY2
  generalize Y2.setRow _ _ = Y3 at *
  refine RG.wpL_take (fuel := 0) (a' := ?Ab) [5] (by kernel_rfl) (by kernel_rfl) (fun _ _ _ _ _ h => h) HT3.out (fun _ => trivial) ?rb ?_
  case rb =>
    refine RG.RunsIf.weak (v := ?_) (by rfl) (by rfl) (fun Z hT => ?_) ?_
    rotate_left
    · go_simp
      rfl
    simp only [Act.put, List.setIfInBounds_toArray, List.set_cons_zero, List.set_cons_succ, List.getElem_toArray, List.getElem_cons_zero, List.getElem_cons_succ]
    exact RG.RunsIf.nil
  refine RG.wpL_done (by kernel_rfl) ?_ _
  refine NoPanic.normal ?_
  refine HQ.out _ _ ?_
  clear HQ KQ
  go_wp2
  refine bodyPost_ret (results_two_tmp (P := Try.prog) Try.results48 _ _ (B + 1) (B + 2) #[.int .i64 T.k, .int .i64 T.d, .int .i64 T.f, .int .i64 T.dp, .int .u32 T.lf, .int .i64 T.inn, .slice T.ka T.kl T.kc, .slice T.sa T.sl T.sc, .slice T.pa T.pl T.pc, .int .u64 n, .int .u64 m] #[.int .i64 x0, .int .u64 x1, .int .u64 x2, .int .u64 x3] _ (by rfl) (by rfl) (by rfl) (run_loadVar_row _ (B + 1) 98 98 _ (0, 0) _ M5.out Try.underlying98 rfl (by kernel_rfl)) (run_loadVar_row _ (B + 2) 100 100 _ (0, 0) _ M6.out Try.underlying100 rfl (by kernel_rfl))) rfl ?_
  exact ⟨rfl, BY3.out⟩
end LW
end Go.Proofs.Ytcpegipojkbcoaa
