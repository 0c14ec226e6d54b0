/-
  What Params of the document gives; both in one word.
-/
import Derived.Test.YtahmjdnnkifmnaaPaPr
namespace Go.Proofs.Ytahmjdnnkifmnaa
open Go.RowKit
set_option linter.unusedVariables false
set_option linter.unusedSimpArgs false
namespace LW
open Words
set_option maxRecDepth 100000 in
set_option maxHeartbeats 2000000 in
theorem rparamE (T : Tr) (hT : 0 ≤ T.lf ∧ T.lf < 4294967296) (n : Nat) (hn : n < 18446744073709551616) (r : Int) (at_ : Nat) (E : Int) (hE : E ≠ 0) (H : ∀ W, Calls Try.prog 7 #[.agg (trC T), .int .u64 n, .int .i64 r, .int .u64 at_] W fun e w' => e = .returned (.tuple #[.agg (spC 0 0 0 0 false false), .int .i64 E]) ∧ Below W.heap.size W w') (w : World) : Calls Try.prog 12 #[.agg (trC T), .int .u64 n, .int .i64 r, .int .u64 at_] w (PaP (pcC 0 0 0 0 0 0 0 0) E [] [] w) := by
  have HL := TW.hide H
  clear H
  rw [sp0] at HL
  unfold trC at *
  have n0 := heap_alloc_new w (.cells #[.int .i64 T.k, .int .i64 T.d, .int .i64 T.f, .int .i64 T.dp, .int .u32 T.lf, .int .i64 T.inn, .slice T.ka T.kl T.kc, .slice T.sa T.sl T.sc, .slice T.pa T.pl T.pc] 26)
  have hb0 := (Below.refl w.heap.size w).alloc (Nat.le_refl _) (.cells #[.int .i64 T.k, .int .i64 T.d, .int .i64 T.f, .int .i64 T.dp, .int .u32 T.lf, .int .i64 T.inn, .slice T.ka T.kl T.kc, .slice T.sa T.sl T.sc, .slice T.pa T.pl T.pc] 26)
  have n1 := heap_alloc_new (w.alloc (.cells #[.int .i64 T.k, .int .i64 T.d, .int .i64 T.f, .int .i64 T.dp, .int .u32 T.lf, .int .i64 T.inn, .slice T.ka T.kl T.kc, .slice T.sa T.sl T.sc, .slice T.pa T.pl T.pc] 26)) (.cells #[.int .i64 0, .int .i64 0, .int .i64 0, .int .i64 0, .int .u32 0, .int .u64 0, .int .u32 0, .int .i64 0, .int .i64 0, .slice none 0 0, .slice none 0 0] 42)
  rw [show (w.alloc (.cells #[.int .i64 T.k, .int .i64 T.d, .int .i64 T.f, .int .i64 T.dp, .int .u32 T.lf, .int .i64 T.inn, .slice T.ka T.kl T.kc, .slice T.sa T.sl T.sc, .slice T.pa T.pl T.pc] 26)).heap.size = w.heap.size + 1 by simp] at n1
  have n0 := blk_alloc (o' := .cells #[.int .i64 0, .int .i64 0, .int .i64 0, .int .i64 0, .int .u32 0, .int .u64 0, .int .u32 0, .int .i64 0, .int .i64 0, .slice none 0 0, .slice none 0 0] 42) n0
  have hb1 := hb0.alloc hb0.size (.cells #[.int .i64 0, .int .i64 0, .int .i64 0, .int .i64 0, .int .u32 0, .int .u64 0, .int .u32 0, .int .i64 0, .int .i64 0, .slice none 0 0, .slice none 0 0] 42)
  have N0 := TW.hide n0
  have N1 := TW.hide n1
  have B0 := TW.hide hb1
  clear n0 n1 hb0 hb1
  go_enter Try.func12, Try.ntmps12
  refine wp_seq_k fun K hK => ?_
  have HK := TW.hide hK
  clear hK
  go_wp2_with fail
  refine HK.out _ _ ?_
  clear HK K
  generalize (w.alloc _).alloc _ = X at *
  generalize hB : w.heap.size = B at *
  have HBB := TW.hide hB
  clear hB
  obtain ⟨c0, c1, c2, c3, c4, c5, c6, c7, c8⟩ := cells9 N0.out
  refine wp_seq_k fun K hK => ?_
  have HK := TW.hide hK
  clear hK
  go_wp2_with fail
  refine (HL.out _).mono ?_
  rintro e1 w1 ⟨rfl, hb⟩
  clear c0 c1 c2 c3 c4 c5 c6 c7 c8
  have BG : Hid (B + 2 ≤ w1.heap.size) := by have := hb.size; have := blk_lt N1.out; show _ ≤ _; omega
  have N0 := TW.hide (blk_alloc (o' := .cells #[.int .i64 0, .int .u64 0, .int .u64 0, .int .u64 0, .bool false, .bool false] 29) (blk_keep N0.out hb))
  have N1 := TW.hide (blk_alloc (o' := .cells #[.int .i64 0, .int .u64 0, .int .u64 0, .int .u64 0, .bool false, .bool false] 29) (blk_keep N1.out hb))
  have B1 : Hid (Below B w w1) := B0.out.trans (hb.mono (by have := B0.out.size; have := HBB.out; omega))
  have B2 : Hid (Below B w (w1.alloc (.cells #[.int .i64 0, .int .u64 0, .int .u64 0, .int .u64 0, .bool false, .bool false] 29))) := B1.out.alloc (by have := B1.out.size; have := HBB.out; omega) _
  clear B0 B1 hb
  go_wp2
  refine HK.out _ _ ?_
  clear HK K
  generalize w1.alloc _ = V at *
  generalize w1.heap.size = g at *
  have hE' : (E != 0) = true := by simp [hE]
  go_wp2_with (refine wpList_store_row (by rfl) 42 _ _ (by rfl) (B + 1) #[.int .i64 0, .int .i64 0, .int .i64 0, .int .i64 0, .int .u32 0, .int .u64 0, .int .u32 0, .int .i64 0, .int .i64 0, .slice none 0 0, .slice none 0 0] (by rfl) (by rfl) 42 _ N1.out (by kernel_rfl) (by rfl) (by simp [Value.oneCell']) ?_)
  refine bodyPost_ret (v := .tuple #[.agg #[.int .i64 0, .int .i64 0, .int .i64 0, .int .i64 0, .int .u32 0, .int .u64 0, .int .u32 0, .int .i64 0, .int .i64 0, .slice none 0 0, .slice none 0 0], .int .i64 E]) (results_row_tmp (P := Try.prog) Try.results12 _ _ (B + 1) 42 _ (0, 0) _ _ (by rfl) (by rfl) (setRow_heap _ _ _ _ _ _ N1.out) Try.underlying42 rfl (by kernel_rfl)) rfl ?_
  exact ⟨.slice none 0 0, .slice none 0 0, rfl, World.ownsRow_nil _ _ _ _, World.ownsRow_nil _ _ _ _, by rw [HBB.out]; exact below_setRow B2.out (by omega)⟩
set_option maxRecDepth 100000 in
set_option maxHeartbeats 2000000 in
theorem rparamG (T : Tr) (s t : List Int) (n : Nat) (r : Int) (at_ fr tt : Nat) (la ro : Bool)
    (H : ∀ W, Calls Try.prog 7 #[.agg (trC T), .int .u64 n, .int .i64 r, .int .u64 at_] W fun e w' => e = .returned (.tuple #[.agg (spC r at_ fr tt la ro), .int .i64 0]) ∧ Below W.heap.size W w') (w : World)
    (H1 : ∀ W, Below w.heap.size w W → Calls Try.prog 24 #[.slice T.sa T.sl T.sc] W (KpP W s))
    (H2 : ∀ W, Below w.heap.size w W → Calls Try.prog 24 #[.slice T.pa T.pl T.pc] W (KpP W t)) : Calls Try.prog 12 #[.agg (trC T), .int .u64 n, .int .i64 r, .int .u64 at_] w (PaP (pcC T.d T.kl T.f T.dp T.lf at_ r T.inn) 0 (kpL s) (kpL t) w) := by
  have HL := TW.hide H
  have HU := TW.hide H1
  have HV := TW.hide H2
  clear H H1 H2
  unfold trC spC at *
  have n0 := heap_alloc_new w (.cells #[.int .i64 T.k, .int .i64 T.d, .int .i64 T.f, .int .i64 T.dp, .int .u32 T.lf, .int .i64 T.inn, .slice T.ka T.kl T.kc, .slice T.sa T.sl T.sc, .slice T.pa T.pl T.pc] 26)
  have hb0 := (Below.refl w.heap.size w).alloc (Nat.le_refl _) (.cells #[.int .i64 T.k, .int .i64 T.d, .int .i64 T.f, .int .i64 T.dp, .int .u32 T.lf, .int .i64 T.inn, .slice T.ka T.kl T.kc, .slice T.sa T.sl T.sc, .slice T.pa T.pl T.pc] 26)
  have n1 := heap_alloc_new (w.alloc (.cells #[.int .i64 T.k, .int .i64 T.d, .int .i64 T.f, .int .i64 T.dp, .int .u32 T.lf, .int .i64 T.inn, .slice T.ka T.kl T.kc, .slice T.sa T.sl T.sc, .slice T.pa T.pl T.pc] 26)) (.cells #[.int .i64 0, .int .i64 0, .int .i64 0, .int .i64 0, .int .u32 0, .int .u64 0, .int .u32 0, .int .i64 0, .int .i64 0, .slice none 0 0, .slice none 0 0] 42)
  rw [show (w.alloc (.cells #[.int .i64 T.k, .int .i64 T.d, .int .i64 T.f, .int .i64 T.dp, .int .u32 T.lf, .int .i64 T.inn, .slice T.ka T.kl T.kc, .slice T.sa T.sl T.sc, .slice T.pa T.pl T.pc] 26)).heap.size = w.heap.size + 1 by simp] at n1
  have n0 := blk_alloc (o' := .cells #[.int .i64 0, .int .i64 0, .int .i64 0, .int .i64 0, .int .u32 0, .int .u64 0, .int .u32 0, .int .i64 0, .int .i64 0, .slice none 0 0, .slice none 0 0] 42) n0
  have hb1 := hb0.alloc hb0.size (.cells #[.int .i64 0, .int .i64 0, .int .i64 0, .int .i64 0, .int .u32 0, .int .u64 0, .int .u32 0, .int .i64 0, .int .i64 0, .slice none 0 0, .slice none 0 0] 42)
  have N0 := TW.hide n0
  have N1 := TW.hide n1
  have B0 := TW.hide hb1
  clear n0 n1 hb0 hb1
  go_enter Try.func12, Try.ntmps12
  refine wp_seq_k fun K hK => ?_
  have HK := TW.hide hK
  clear hK
  go_wp2_with fail
  refine HK.out _ _ ?_
  clear HK K
  generalize (w.alloc _).alloc _ = X at *
  generalize hB : w.heap.size = B at *
  have HBB := TW.hide hB
  clear hB
  obtain ⟨c0, c1, c2, c3, c4, c5, c6, c7, c8⟩ := cells9 N0.out
  refine wp_seq_k fun K hK => ?_
  have HK := TW.hide hK
  clear hK
  go_wp2_with fail
  refine (HL.out _).mono ?_
  rintro e1 w1 ⟨rfl, hb⟩
  clear c0 c1 c2 c3 c4 c5 c6 c7 c8
  have BG : Hid (B + 2 ≤ w1.heap.size) := by have := hb.size; have := blk_lt N1.out; show _ ≤ _; omega
  have N0 := TW.hide (blk_alloc (o' := .cells #[.int .i64 r, .int .u64 at_, .int .u64 fr, .int .u64 tt, .bool la, .bool ro] 29) (blk_keep N0.out hb))
  have N1 := TW.hide (blk_alloc (o' := .cells #[.int .i64 r, .int .u64 at_, .int .u64 fr, .int .u64 tt, .bool la, .bool ro] 29) (blk_keep N1.out hb))
  have B1 : Hid (Below B w w1) := B0.out.trans (hb.mono (by have := B0.out.size; have := HBB.out; omega))
  have B2 : Hid (Below B w (w1.alloc (.cells #[.int .i64 r, .int .u64 at_, .int .u64 fr, .int .u64 tt, .bool la, .bool ro] 29))) := B1.out.alloc (by have := B1.out.size; have := HBB.out; omega) _
  clear B0 B1 hb
  go_wp2
  refine HK.out _ _ ?_
  clear HK K
  generalize w1.alloc _ = V at *
  generalize w1.heap.size = g at *
  refine wp_seq_k fun K hK => ?_
  have HK := TW.hide hK
  clear hK
  go_wp2
  refine HK.out _ _ ?_
  clear HK K
  refine wp_seq_k fun KQ hK => ?_
  have HQ := TW.hide hK
  clear hK
  refine wp_region_noPanic ?_
  refine RG.wp_region_L (fun Z => True) (fun Z => Z.heap[B]? = some (.cells #[.int .i64 T.k, .int .i64 T.d, .int .i64 T.f, .int .i64 T.dp, .int .u32 T.lf, .int .i64 T.inn, .slice T.ka T.kl T.kc, .slice T.sa T.sl T.sc, .slice T.pa T.pl T.pc] 26 (0, 0)) ∧ True) [] (by kernel_rfl) ?_
  refine RG.wpL_any fun Y hY => ?_
  have hH : Y.heap = V.heap := by rw [hY]; rfl
  have HT : Hid (Y.heap[B]? = some (.cells #[.int .i64 T.k, .int .i64 T.d, .int .i64 T.f, .int .i64 T.dp, .int .u32 T.lf, .int .i64 T.inn, .slice T.ka T.kl T.kc, .slice T.sa T.sl T.sc, .slice T.pa T.pl T.pc] 26 (0, 0)) ∧ True) := ⟨by rw [hH]; exact N0.out, trivial⟩
  have M1 : Hid (Y.heap[B + 1]? = some (.cells #[.int .i64 0, .int .i64 0, .int .i64 0, .int .i64 0, .int .u32 0, .int .u64 0, .int .u32 0, .int .i64 0, .int .i64 0, .slice none 0 0, .slice none 0 0] 42 (0, 0))) := by rw [hH]; exact N1.out
  have HY1 : Hid (B + 1 < Y.heap.size) := blk_lt M1.out
  have BY : Hid (Below B w Y) := by rw [hY]; exact below_drewN B2.out 1
  clear hY hH N0 N1 B2 
  refine RG.wpL_take (fuel := 5) (a' := ?Aa) [0, 1, 2, 3, 4, 5, 6, 7, 8, 9, 10, 11, 12, 13, 14, 15, 16, 18, 19] (by kernel_rfl) (by kernel_rfl) (fun _ _ _ _ _ h => h) HT.out (fun _ => trivial) ?ra ?_
  case ra =>
    refine RG.RunsIf.weak (v := ?_) (by rfl) (by rfl) (fun Z hT => ?_) ?_
    rotate_left
    · go_simp
      rfl
    simp only [Act.put, List.setIfInBounds_toArray, List.set_cons_zero, List.set_cons_succ, List.getElem_toArray, List.getElem_cons_zero, List.getElem_cons_succ]
    refine RG.RunsIf.weak (v := .int .i64 T.d) (by rfl) (by rfl) (fun Z hT => ?_) ?_
    · obtain ⟨c0, c1, c2, c3, c4, c5, c6, c7, c8⟩ := cells9 hT.1
      go_simp
    simp only [Act.put, List.setIfInBounds_toArray, List.set_cons_zero, List.set_cons_succ, List.getElem_toArray, List.getElem_cons_zero, List.getElem_cons_succ]
    refine RG.RunsIf.weak (v := ?_) (by rfl) (by rfl) (fun Z hT => ?_) ?_
    rotate_left
    · go_simp
      rfl
    simp only [Act.put, List.setIfInBounds_toArray, List.set_cons_zero, List.set_cons_succ, List.getElem_toArray, List.getElem_cons_zero, List.getElem_cons_succ]
    refine RG.RunsIf.weak (v := .slice T.ka T.kl T.kc) (by rfl) (by rfl) (fun Z hT => ?_) ?_
    · obtain ⟨c0, c1, c2, c3, c4, c5, c6, c7, c8⟩ := cells9 hT.1
      go_simp
    simp only [Act.put, List.setIfInBounds_toArray, List.set_cons_zero, List.set_cons_succ, List.getElem_toArray, List.getElem_cons_zero, List.getElem_cons_succ]
    refine RG.RunsIf.weak (v := ?_) (by rfl) (by rfl) (fun Z hT => ?_) ?_
    rotate_left
    · go_simp
      rfl
    simp only [Act.put, List.setIfInBounds_toArray, List.set_cons_zero, List.set_cons_succ, List.getElem_toArray, List.getElem_cons_zero, List.getElem_cons_succ]
    refine RG.RunsIf.weak (v := ?_) (by rfl) (by rfl) (fun Z hT => ?_) ?_
    rotate_left
    · go_simp
      rfl
    simp only [Act.put, List.setIfInBounds_toArray, List.set_cons_zero, List.set_cons_succ, List.getElem_toArray, List.getElem_cons_zero, List.getElem_cons_succ]
    refine RG.RunsIf.weak (v := .int .i64 T.f) (by rfl) (by rfl) (fun Z hT => ?_) ?_
    · obtain ⟨c0, c1, c2, c3, c4, c5, c6, c7, c8⟩ := cells9 hT.1
      go_simp
    simp only [Act.put, List.setIfInBounds_toArray, List.set_cons_zero, List.set_cons_succ, List.getElem_toArray, List.getElem_cons_zero, List.getElem_cons_succ]
    refine RG.RunsIf.weak (v := ?_) (by rfl) (by rfl) (fun Z hT => ?_) ?_
    rotate_left
    · go_simp
      rfl
    simp only [Act.put, List.setIfInBounds_toArray, List.set_cons_zero, List.set_cons_succ, List.getElem_toArray, List.getElem_cons_zero, List.getElem_cons_succ]
    refine RG.RunsIf.weak (v := .int .i64 T.dp) (by rfl) (by rfl) (fun Z hT => ?_) ?_
    · obtain ⟨c0, c1, c2, c3, c4, c5, c6, c7, c8⟩ := cells9 hT.1
      go_simp
    simp only [Act.put, List.setIfInBounds_toArray, List.set_cons_zero, List.set_cons_succ, List.getElem_toArray, List.getElem_cons_zero, List.getElem_cons_succ]
    refine RG.RunsIf.weak (v := ?_) (by rfl) (by rfl) (fun Z hT => ?_) ?_
    rotate_left
    · go_simp
      rfl
    simp only [Act.put, List.setIfInBounds_toArray, List.set_cons_zero, List.set_cons_succ, List.getElem_toArray, List.getElem_cons_zero, List.getElem_cons_succ]
    refine RG.RunsIf.weak (v := .int .u32 T.lf) (by rfl) (by rfl) (fun Z hT => ?_) ?_
    · obtain ⟨c0, c1, c2, c3, c4, c5, c6, c7, c8⟩ := cells9 hT.1
      go_simp
    simp only [Act.put, List.setIfInBounds_toArray, List.set_cons_zero, List.set_cons_succ, List.getElem_toArray, List.getElem_cons_zero, List.getElem_cons_succ]
    refine RG.RunsIf.weak (v := ?_) (by rfl) (by rfl) (fun Z hT => ?_) ?_
    rotate_left
    · go_simp
      rfl
    simp only [Act.put, List.setIfInBounds_toArray, List.set_cons_zero, List.set_cons_succ, List.getElem_toArray, List.getElem_cons_zero, List.getElem_cons_succ]
    refine RG.RunsIf.weak (v := ?_) (by rfl) (by rfl) (fun Z hT => ?_) ?_
    rotate_left
    · go_simp
      rfl
    simp only [Act.put, List.setIfInBounds_toArray, List.set_cons_zero, List.set_cons_succ, List.getElem_toArray, List.getElem_cons_zero, List.getElem_cons_succ]
    refine RG.RunsIf.weak (v := ?_) (by rfl) (by rfl) (fun Z hT => ?_) ?_
    rotate_left
    · go_simp
      rfl
    simp only [Act.put, List.setIfInBounds_toArray, List.set_cons_zero, List.set_cons_succ, List.getElem_toArray, List.getElem_cons_zero, List.getElem_cons_succ]
    refine RG.RunsIf.weak (v := .int .i64 T.inn) (by rfl) (by rfl) (fun Z hT => ?_) ?_
    · obtain ⟨c0, c1, c2, c3, c4, c5, c6, c7, c8⟩ := cells9 hT.1
      go_simp
    simp only [Act.put, List.setIfInBounds_toArray, List.set_cons_zero, List.set_cons_succ, List.getElem_toArray, List.getElem_cons_zero, List.getElem_cons_succ]
    refine RG.RunsIf.weak (v := ?_) (by rfl) (by rfl) (fun Z hT => ?_) ?_
    rotate_left
    · go_simp
      rfl
    simp only [Act.put, List.setIfInBounds_toArray, List.set_cons_zero, List.set_cons_succ, List.getElem_toArray, List.getElem_cons_zero, List.getElem_cons_succ]
    refine RG.RunsIf.weak (v := .slice T.sa T.sl T.sc) (by rfl) (by rfl) (fun Z hT => ?_) ?_
    · obtain ⟨c0, c1, c2, c3, c4, c5, c6, c7, c8⟩ := cells9 hT.1
      go_simp
    simp only [Act.put, List.setIfInBounds_toArray, List.set_cons_zero, List.set_cons_succ, List.getElem_toArray, List.getElem_cons_zero, List.getElem_cons_succ]
    refine RG.RunsIf.weak (v := ?_) (by rfl) (by rfl) (fun Z hT => ?_) ?_
    rotate_left
    · go_simp
      rfl
    simp only [Act.put, List.setIfInBounds_toArray, List.set_cons_zero, List.set_cons_succ, List.getElem_toArray, List.getElem_cons_zero, List.getElem_cons_succ]
    refine RG.RunsIf.weak (v := .slice T.pa T.pl T.pc) (by rfl) (by rfl) (fun Z hT => ?_) ?_
    · obtain ⟨c0, c1, c2, c3, c4, c5, c6, c7, c8⟩ := cells9 hT.1
      go_simp
    simp only [Act.put, List.setIfInBounds_toArray, List.set_cons_zero, List.set_cons_succ, List.getElem_toArray, List.getElem_cons_zero, List.getElem_cons_succ]
    exact RG.RunsIf.nil
  refine RG.wpL_step (i := 17) (by kernel_rfl) (by rfl) (by rfl) (fun KX hK => ?_)
  have HK := TW.hide hK
  clear hK
  go_simp
  refine (HU.out _ (HBB.out ▸ BY.out)).mono ?_
  rintro ex0 W0 ⟨v1, rfl, ho, hb⟩
  obtain ⟨a1, l1, p1, rfl⟩ := own_sl ho
  have HO0 := TW.hide ho
  have HT2 := TW.hide (⟨blk_keep HT.out.1 hb, trivial⟩ : W0.heap[B]? = some (.cells #[.int .i64 T.k, .int .i64 T.d, .int .i64 T.f, .int .i64 T.dp, .int .u32 T.lf, .int .i64 T.inn, .slice T.ka T.kl T.kc, .slice T.sa T.sl T.sc, .slice T.pa T.pl T.pc] 26 (0, 0)) ∧ True)
  have M2 := TW.hide (blk_keep M1.out hb)
  have HS0 := TW.hide hb.size
  have BY2 : Hid (Below B w W0) := BY.out.trans (hb.mono (by have := BY.out.size; have := HBB.out; omega))
  skip
  refine HK.out _ _ HT2.out (fun _ => trivial) ?_
  clear HK KX HT M1 BY ho hb
  try simp only [Act.put, List.setIfInBounds_toArray, List.set_cons_zero, List.set_cons_succ, List.getElem_toArray, List.getElem_cons_zero, List.getElem_cons_succ]
  refine RG.wpL_step (i := 20) (by kernel_rfl) (by rfl) (by rfl) (fun KX hK => ?_)
  have HK := TW.hide hK
  clear hK
  go_simp
  refine (HV.out _ (HBB.out ▸ BY2.out)).mono ?_
  rintro ex1 W1 ⟨v2, rfl, ho, hb⟩
  obtain ⟨a2, l2, p2, rfl⟩ := own_sl ho
  have HO1 := TW.hide ho
  have HT3 := TW.hide (⟨blk_keep HT2.out.1 hb, trivial⟩ : W1.heap[B]? = some (.cells #[.int .i64 T.k, .int .i64 T.d, .int .i64 T.f, .int .i64 T.dp, .int .u32 T.lf, .int .i64 T.inn, .slice T.ka T.kl T.kc, .slice T.sa T.sl T.sc, .slice T.pa T.pl T.pc] 26 (0, 0)) ∧ True)
  have M3 := TW.hide (blk_keep M2.out hb)
  have HS1 := TW.hide hb.size
  have BY3 : Hid (Below B w W1) := BY2.out.trans (hb.mono (by have := BY2.out.size; have := HBB.out; omega))
  have HO0 : Hid (W1.ownsRow Y.heap.size 5 1 (.slice a1 l1 p1) (kpL s).length (vs (kpL s))) := own_keep HO0.out hb
  refine HK.out _ _ HT3.out (fun _ => trivial) ?_
  clear HK KX HT2 M2 BY2 ho hb
  try simp only [Act.put, List.setIfInBounds_toArray, List.set_cons_zero, List.set_cons_succ, List.getElem_toArray, List.getElem_cons_zero, List.getElem_cons_succ]
  refine RG.wpL_take (fuel := 2) (a' := ?Ab) [21] (by kernel_rfl) (by kernel_rfl) (fun _ _ _ _ _ h => h) HT3.out (fun _ => trivial) ?rb ?_
  case rb =>
    refine RG.RunsIf.weak (v := .agg #[.int .i64 T.d, .int .i64 T.kl, .int .i64 T.f, .int .i64 T.dp, .int .u32 T.lf, .int .u64 at_, .int .u32 0, .int .i64 r, .int .i64 T.inn, .slice a1 l1 p1, .slice a2 l2 p2]) (by rfl) (by rfl) (fun Z hT => ?_) ?_
    · go_simp
    simp only [Act.put, List.setIfInBounds_toArray, List.set_cons_zero, List.set_cons_succ, List.getElem_toArray, List.getElem_cons_zero, List.getElem_cons_succ]
    exact RG.RunsIf.nil
  refine RG.wpL_step (i := 22) (by kernel_rfl) (by rfl) (by rfl) (fun KX hK => ?_)
  have HK := TW.hide hK
  clear hK
  refine wp_store_row 42 _ _ (by rfl) (B + 1) #[.int .i64 T.d, .int .i64 T.kl, .int .i64 T.f, .int .i64 T.dp, .int .u32 T.lf, .int .u64 at_, .int .u32 0, .int .i64 r, .int .i64 T.inn, .slice a1 l1 p1, .slice a2 l2 p2] (by rfl) (by rfl) 42 _ M3.out (by kernel_rfl) (by rfl) (by simp [Value.oneCell']) ?_
  try simp only [Act.put, List.setIfInBounds_toArray, List.set_cons_zero, List.set_cons_succ, List.getElem_toArray, List.getElem_cons_zero, List.getElem_cons_succ]
  have HT4 := TW.hide (⟨blk_other' (cs := #[.int .i64 T.d, .int .i64 T.kl, .int .i64 T.f, .int .i64 T.dp, .int .u32 T.lf, .int .u64 at_, .int .u32 0, .int .i64 r, .int .i64 T.inn, .slice a1 l1 p1, .slice a2 l2 p2]) HT3.out.1 (show B ≠ B + 1 by omega), trivial⟩ : (W1.setRow (B + 1) #[.int .i64 T.d, .int .i64 T.kl, .int .i64 T.f, .int .i64 T.dp, .int .u32 T.lf, .int .u64 at_, .int .u32 0, .int .i64 r, .int .i64 T.inn, .slice a1 l1 p1, .slice a2 l2 p2]).heap[B]? = some (.cells #[.int .i64 T.k, .int .i64 T.d, .int .i64 T.f, .int .i64 T.dp, .int .u32 T.lf, .int .i64 T.inn, .slice T.ka T.kl T.kc, .slice T.sa T.sl T.sc, .slice T.pa T.pl T.pc] 26 (0, 0)) ∧ True)
  have M4 := TW.hide (setRow_heap _ _ _ #[.int .i64 T.d, .int .i64 T.kl, .int .i64 T.f, .int .i64 T.dp, .int .u32 T.lf, .int .u64 at_, .int .u32 0, .int .i64 r, .int .i64 T.inn, .slice a1 l1 p1, .slice a2 l2 p2] _ _ M3.out)
  have BY4 : Hid (Below B w (W1.setRow (B + 1) #[.int .i64 T.d, .int .i64 T.kl, .int .i64 T.f, .int .i64 T.dp, .int .u32 T.lf, .int .u64 at_, .int .u32 0, .int .i64 r, .int .i64 T.inn, .slice a1 l1 p1, .slice a2 l2 p2])) := below_setRow BY3.out (by omega)
  have hgY : B + 1 < Y.heap.size := HY1.out
  have HO2 := TW.hide (own_set (cs := #[.int .i64 T.d, .int .i64 T.kl, .int .i64 T.f, .int .i64 T.dp, .int .u32 T.lf, .int .u64 at_, .int .u32 0, .int .i64 r, .int .i64 T.inn, .slice a1 l1 p1, .slice a2 l2 p2]) HO0.out hgY)
  have HO3 := TW.hide (own_set (cs := #[.int .i64 T.d, .int .i64 T.kl, .int .i64 T.f, .int .i64 T.dp, .int .u32 T.lf, .int .u64 at_, .int .u32 0, .int .i64 r, .int .i64 T.inn, .slice a1 l1 p1, .slice a2 l2 p2]) HO1.out (Nat.lt_of_lt_of_le hgY HS0.out))
  refine HK.out _ _ HT4.out (fun _ => trivial) ?_
  clear HK KX HT3 M3 BY3 HO0 HO1
  generalize W1.setRow _ _ = Y4 at *
  refine RG.wpL_take (fuel := 0) (a' := ?Ac) [23] (by kernel_rfl) (by kernel_rfl) (fun _ _ _ _ _ h => h) HT4.out (fun _ => trivial) ?rc ?_
  case rc =>
    refine RG.RunsIf.weak (v := ?_) (by rfl) (by rfl) (fun Z hT => ?_) ?_
    rotate_left
    · go_simp
      rfl
    simp only [Act.put, List.setIfInBounds_toArray, List.set_cons_zero, List.set_cons_succ, List.getElem_toArray, List.getElem_cons_zero, List.getElem_cons_succ]
    exact RG.RunsIf.nil
  refine RG.wpL_done (by kernel_rfl) ?_ _
  refine NoPanic.normal ?_
  refine HQ.out _ _ ?_
  clear HQ KQ
  go_wp2
  refine bodyPost_ret (v := .tuple #[.agg #[.int .i64 T.d, .int .i64 T.kl, .int .i64 T.f, .int .i64 T.dp, .int .u32 T.lf, .int .u64 at_, .int .u32 0, .int .i64 r, .int .i64 T.inn, .slice a1 l1 p1, .slice a2 l2 p2], .int .i64 0]) (results_row_tmp (P := Try.prog) Try.results12 _ _ (B + 1) 42 _ (0, 0) _ _ (by rfl) (by rfl) M4.out Try.underlying42 rfl (by kernel_rfl)) rfl ?_
  have hs0 := HS0.out
  have hby : w.heap.size ≤ Y.heap.size := by rw [HBB.out]; omega
  exact ⟨_, _, rfl, own_low HO2.out hby, own_low HO3.out (by omega), by rw [HBB.out]; exact BY4.out⟩
/-- The numbers that Params tells, its error and its two lists. -/
def PaX (T : Tr) (s t : List Int) (n : Nat) (r : Int) (at_ : Nat) (w : World) (e : Ending) (w' : World) : Prop :=
  if lvE T n = 0 then (if Has (roL T n) r at_ then PaP (pcC T.d T.kl T.f T.dp T.lf at_ r T.inn) 0 (kpL s) (kpL t) w e w' else PaP (pcC 0 0 0 0 0 0 0 0) 6 [] [] w e w') else PaP (pcC 0 0 0 0 0 0 0 0) (lvE T n) [] [] w e w'
theorem param_ (T : Tr) (hT : 0 ≤ T.lf ∧ T.lf < 4294967296) (s t : List Int) (n : Nat) (hn : n < 18446744073709551616) (r : Int) (at_ : Nat) (w : World)
    (H1 : lvE T n = 0 → ∀ W, Below w.heap.size w W → Calls Try.prog 23 #[.slice T.sa T.sl T.sc] W (KpP W s))
    (H2 : lvE T n = 0 → ∀ W, Below w.heap.size w W → Calls Try.prog 23 #[.slice T.pa T.pl T.pc] W (KpP W t)) : Calls Try.prog 11 #[.agg (trC T), .int .u64 n, .int .i64 r, .int .u64 at_] w (PaX T s t n r at_ w) := by
  by_cases hE : lvE T n = 0
  · by_cases hh : Has (roL T n) r at_
    · refine (paramG T s t n (lv T n) r at_ _ _ (fun W => laidY T hT n hn hE r at_ hh W) w (H1 hE) (H2 hE)).mono ?_
      intro e w' h
      unfold PaX
      rw [if_pos hE, if_pos hh]
      exact h
    · refine (paramE T hT n hn r at_ 6 (by omega) 0 0 0 0 T n (lv T n) (fun W => laidN T hT n hn hE r at_ hh W) w).mono ?_
      intro e w' h
      unfold PaX
      rw [if_pos hE, if_neg hh]
      exact h
  · refine (paramE T hT n hn r at_ (lvE T n) hE 0 0 0 0 T0 0 0 (fun W => laidE T hT n hn hE r at_ W) w).mono ?_
    intro e w' h
    unfold PaX
    rw [if_neg hE]
    exact h
theorem rparam_ (T : Tr) (hT : 0 ≤ T.lf ∧ T.lf < 4294967296) (s t : List Int) (n : Nat) (hn : n < 18446744073709551616) (r : Int) (at_ : Nat) (w : World)
    (H1 : lvE T n = 0 → ∀ W, Below w.heap.size w W → Calls Try.prog 24 #[.slice T.sa T.sl T.sc] W (KpP W s))
    (H2 : lvE T n = 0 → ∀ W, Below w.heap.size w W → Calls Try.prog 24 #[.slice T.pa T.pl T.pc] W (KpP W t)) : Calls Try.prog 12 #[.agg (trC T), .int .u64 n, .int .i64 r, .int .u64 at_] w (PaX T s t n r at_ w) := by
  have hs := fun W => rspot_ T hT n hn r at_ W
  unfold spF at hs
  by_cases hE : lvE T n = 0
  · simp only [if_pos hE] at hs
    by_cases hh : Has (roL T n) r at_
    · simp only [if_pos hh] at hs
      refine (rparamG T s t n r at_ _ _ _ _ hs w (H1 hE) (H2 hE)).mono ?_
      intro e w' h
      unfold PaX
      rw [if_pos hE, if_pos hh]
      exact h
    · simp only [if_neg hh] at hs
      refine (rparamE T hT n hn r at_ 6 (by omega) hs w).mono ?_
      intro e w' h
      unfold PaX
      rw [if_pos hE, if_neg hh]
      exact h
  · simp only [if_neg hE] at hs
    refine (rparamE T hT n hn r at_ (lvE T n) hE hs w).mono ?_
    intro e w' h
    unfold PaX
    rw [if_neg hE]
    exact h
theorem vd_sl {T : Tr} (h : vd T = 0) : T.sl ≤ 16 ∧ T.pl ≤ 16 := by
  have key : ∀ (k : Int) (m : Nat), fi k m = true → m ≤ 16 := by
    intro k m h
    unfold fi at h
    simp only [Bool.or_eq_true, beq_iff_eq] at h
    split at h <;> omega
  unfold vd at h
  split at h
  · cases h
  · split at h
    · cases h
    · split at h
      · cases h
      · split at h
        · cases h
        · rename_i g
          simp only [Bool.or_eq_true, Bool.not_eq_true', not_or, Bool.not_eq_false] at g
          exact ⟨key _ _ g.1, key _ _ g.2⟩
theorem paX_ex (T : Tr) (s t : List Int) (n : Nat) (r : Int) (at_ : Nat) : ∃ (d : Int) (kl : Nat) (f dp lf : Int) (of : Nat) (ro inn E : Int) (S P : List Int), PaX T s t n r at_ = PaP (pcC d kl f dp lf of ro inn) E S P := by
  by_cases hE : lvE T n = 0
  · by_cases hh : Has (roL T n) r at_
    · exact ⟨_, _, _, _, _, _, _, _, _, _, _, by funext w e w'; unfold PaX; rw [if_pos hE, if_pos hh]⟩
    · exact ⟨_, _, _, _, _, _, _, _, _, _, _, by funext w e w'; unfold PaX; rw [if_pos hE, if_neg hh]⟩
  · exact ⟨_, _, _, _, _, _, _, _, _, _, _, by funext w e w'; unfold PaX; rw [if_neg hE]⟩
end LW
end Go.Proofs.Ytahmjdnnkifmnaa
