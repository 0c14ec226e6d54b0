/-
  The law PoolSystems.
-/
import Derived.Test.YtlmnllgcoikkmaaPv6
namespace Go.Proofs.Ytlmnllgcoikkmaa
open Go.RowKit
set_option linter.unusedVariables false
set_option linter.unusedSimpArgs false
namespace LW
open Mc
/-- The systems are short. -/
theorem sys_short (n a q : Int) : (if ft n a q = 0 then sysL n a q else s0).progs.length ≤ 9223372036854775807 ∧ (∀ p, ((if ft n a q = 0 then sysL n a q else s0).progs.getD p []).length ≤ 9223372036854775807) ∧ (if ft n a q = 0 then sysL n a q else s0).rooms.length ≤ 9223372036854775807 := by
  split
  · refine ⟨by simp [sysL], fun p => ?_, by simp [sysL]⟩
    match p with
    | 0 => simp [sysL, cmL]
    | 1 => simp [sysL, wkL]
    | 2 => simp [sysL, fdL]
    | 3 => simp [sysL, clL]
    | p + 4 => simp [sysL]
  · exact ⟨by simp [s0], fun p => by simp [s0], by simp [s0]⟩
set_option maxHeartbeats 8000000 in
theorem systemsW (n a q : Int) (w : World) : Calls Try.prog 3 #[.int .i64 n, .agg #[.int .i64 a, .int .i64 q]] w fun e w' => e = .returned (.bool true) ∧ Below w.heap.size w w' := by
  have H1 := TW.hide (fun W => pBuffers a q W)
  have H2 := TW.hide (fun W => rBuffers a q W)
  have H3 := TW.hide (fun W => pSystem n a q W)
  have H4 := TW.hide (fun W => rSystem n a q W)
  have H5 := TW.hide (fun W => pbound n a q W)
  have H6 := TW.hide (fun W => rBound n a q W)
  have H7 := TW.hide (fun W => pvalid a q W)
  have H8 := TW.hide (fun W => rvalid a q W)
  have HS := TW.hide (fun pa ra pb rb pc rc pd rd W h1 h2 => systems_same (if ft n a q = 0 then sysL n a q else s0) pa ra pb rb pc rc pd rd W h1 h2 (sys_short n a q).1 (sys_short n a q).2.1 (sys_short n a q).2.2)
  have HA := TW.hide awake15
  unfold SyP at H3 H4
  generalize (if ft n a q = 0 then sysL n a q else s0) = s at *
  generalize (if vp a q = 0 then bu a q else 0) = x at *
  generalize vp a q = v at *
  generalize ft n a q = f at *
  generalize bd n a q = d at *
  unfold syC at H3 H4 HS
  generalize s.rooms.length = M at *
  generalize s.progs.length = N at *
  generalize s.groups = x1 at *
  generalize s.locks = x2 at *
  generalize s.cells = x3 at *
  have n0 := heap_alloc_new w (.cells #[.int .i64 a, .int .i64 q] 23)
  have hb := (Below.refl w.heap.size w).alloc (Nat.le_refl _) (.cells #[.int .i64 a, .int .i64 q] 23)
  obtain ⟨c0, c1⟩ := cells2 n0
  have N0 := TW.hide n0
  have HB := TW.hide hb
  clear n0 hb
  go_enter Try.func3, Try.ntmps3
  go_wp2_with fail
  refine (H1.out _).mono ?_
  rintro e1 w1 ⟨rfl, hb⟩
  have hsz1 : w.heap.size ≤ (w.alloc (.cells #[.int .i64 a, .int .i64 q] 23)).heap.size := HB.out.size
  have N0 := TW.hide (blk_keep N0.out hb)
  have HB := TW.hide (HB.out.trans (hb.mono hsz1))
  clear c0 c1
  obtain ⟨c0, c1⟩ := cells2 N0.out
  clear hb hsz1
  go_wp2_with fail
  refine (H2.out _).mono ?_
  rintro e2 w2 ⟨rfl, hb⟩
  have hsz2 : w.heap.size ≤ w1.heap.size := HB.out.size
  have N0 := TW.hide (blk_keep N0.out hb)
  have HB := TW.hide (HB.out.trans (hb.mono hsz2))
  clear c0 c1
  obtain ⟨c0, c1⟩ := cells2 N0.out
  clear hb hsz2
  go_wp2_with fail
  refine (H3.out _).mono ?_
  rintro e3 w3 ⟨⟨paa, pca, raa, rca, rfl, hSa⟩, hb⟩
  have hsz3 : w.heap.size ≤ w2.heap.size := HB.out.size
  have N0 := TW.hide (blk_keep N0.out hb)
  have HB := TW.hide (HB.out.trans (hb.mono hsz3))
  clear c0 c1
  obtain ⟨c0, c1⟩ := cells2 N0.out
  have SA := TW.hide hSa
  clear hSa
  clear hb hsz3
  have NN3 := TW.hide (heap_alloc_new w3 (.cells #[.slice none 0 0, .slice none 0 0, .int .i64 0, .int .i64 0, .int .i64 0] 32))
  have hlt3 : w.heap.size < w3.heap.size := blk_lt N0.out
  have M3 := TW.hide (setRow_heap _ _ _ #[.slice paa N pca, .slice raa M rca, .int .i64 x1, .int .i64 x2, .int .i64 x3] _ _ NN3.out)
  have BX3 := TW.hide (below_setRow (g := w3.heap.size) (cs := #[.slice paa N pca, .slice raa M rca, .int .i64 x1, .int .i64 x2, .int .i64 x3]) (HB.out.alloc (Nat.le_of_lt hlt3) (.cells #[.slice none 0 0, .slice none 0 0, .int .i64 0, .int .i64 0, .int .i64 0] 32)) (Nat.le_of_lt hlt3))
  have BY3 := TW.hide (below_setRow (g := w3.heap.size) (cs := #[.slice paa N pca, .slice raa M rca, .int .i64 x1, .int .i64 x2, .int .i64 x3]) ((Below.refl w3.heap.size w3).alloc (Nat.le_refl _) (.cells #[.slice none 0 0, .slice none 0 0, .int .i64 0, .int .i64 0, .int .i64 0] 32)) (Nat.le_refl _))
  have N0 := TW.hide (blk_keep N0.out BY3.out)
  have SA := TW.hide (SA.out.below BY3.out)
  have HB := BX3
  go_wp2_with (refine wpList_store_row (by rfl) 32 _ _ (by rfl) w3.heap.size #[.slice paa N pca, .slice raa M rca, .int .i64 x1, .int .i64 x2, .int .i64 x3] (by rfl) (by rfl) 32 _ NN3.out (by kernel_rfl) (by rfl) (by simp [Value.oneCell']) ?_; generalize hX3 : World.setRow _ _ _ = X3 at *; obtain ⟨c0, c1⟩ := cells2 N0.out)
  refine (H4.out _).mono ?_
  rintro e4 w4 ⟨⟨pab, pcb, rab, rcb, rfl, hSb⟩, hb⟩
  have SB := TW.hide hSb
  have SA := TW.hide (SA.out.below hb)
  have hsz : w.heap.size ≤ X3.heap.size := HB.out.size
  have N0 := TW.hide (blk_keep N0.out hb)
  have M3 := TW.hide (blk_keep M3.out hb)
  have HB := TW.hide (HB.out.trans (hb.mono hsz))
  clear hSb hb hsz c0 c1
  have NN4 := TW.hide (heap_alloc_new w4 (.cells #[.slice none 0 0, .slice none 0 0, .int .i64 0, .int .i64 0, .int .i64 0] 32))
  have hlt4 : w.heap.size < w4.heap.size := blk_lt N0.out
  have M4 := TW.hide (setRow_heap _ _ _ #[.slice pab N pcb, .slice rab M rcb, .int .i64 x1, .int .i64 x2, .int .i64 x3] _ _ NN4.out)
  have BX4 := TW.hide (below_setRow (g := w4.heap.size) (cs := #[.slice pab N pcb, .slice rab M rcb, .int .i64 x1, .int .i64 x2, .int .i64 x3]) (HB.out.alloc (Nat.le_of_lt hlt4) (.cells #[.slice none 0 0, .slice none 0 0, .int .i64 0, .int .i64 0, .int .i64 0] 32)) (Nat.le_of_lt hlt4))
  have BY4 := TW.hide (below_setRow (g := w4.heap.size) (cs := #[.slice pab N pcb, .slice rab M rcb, .int .i64 x1, .int .i64 x2, .int .i64 x3]) ((Below.refl w4.heap.size w4).alloc (Nat.le_refl _) (.cells #[.slice none 0 0, .slice none 0 0, .int .i64 0, .int .i64 0, .int .i64 0] 32)) (Nat.le_refl _))
  have N0 := TW.hide (blk_keep N0.out BY4.out)
  have SA := TW.hide (SA.out.below BY4.out)
  have SB := TW.hide (SB.out.below BY4.out)
  have M3 := TW.hide (blk_keep M3.out BY4.out)
  have HB := BX4
  go_wp2_with (refine wpList_store_row (by rfl) 32 _ _ (by rfl) w4.heap.size #[.slice pab N pcb, .slice rab M rcb, .int .i64 x1, .int .i64 x2, .int .i64 x3] (by rfl) (by rfl) 32 _ NN4.out (by kernel_rfl) (by rfl) (by simp [Value.oneCell']) ?_; generalize hX4 : World.setRow _ _ _ = X4 at *; obtain ⟨c0, c1⟩ := cells2 N0.out)
  generalize World.setRow _ _ _ = X4 at *
  refine (H5.out _).mono ?_
  rintro e5 w5 ⟨rfl, hb⟩
  have hsz : w.heap.size ≤ X4.heap.size := HB.out.size
  have N0 := TW.hide (blk_keep N0.out hb)
  have M3 := TW.hide (blk_keep M3.out hb)
  have M4 := TW.hide (blk_keep M4.out hb)
  have SA := TW.hide (SA.out.below hb)
  have SB := TW.hide (SB.out.below hb)
  have HB := TW.hide (HB.out.trans (hb.mono hsz))
  clear hb hsz c0 c1
  obtain ⟨c0, c1⟩ := cells2 N0.out
  go_wp2_with fail
  refine (H6.out _).mono ?_
  rintro e6 w6 ⟨rfl, hb⟩
  have hsz : w.heap.size ≤ w5.heap.size := HB.out.size
  have N0 := TW.hide (blk_keep N0.out hb)
  have M3 := TW.hide (blk_keep M3.out hb)
  have M4 := TW.hide (blk_keep M4.out hb)
  have SA := TW.hide (SA.out.below hb)
  have SB := TW.hide (SB.out.below hb)
  have HB := TW.hide (HB.out.trans (hb.mono hsz))
  clear hb hsz c0 c1
  obtain ⟨c0, c1⟩ := cells2 N0.out
  go_wp2_with fail
  generalize w3.heap.size = g3 at *
  generalize w4.heap.size = g4 at *
  generalize hg : w.heap.size = g at *
  have HG := TW.hide hg
  clear hg c0 c1
  refine wp_region_noPanic ?_
  refine RG.wp_region_L (fun Z => True) (fun Z => Z.heap[g]? = some (.cells #[.int .i64 a, .int .i64 q] 23 (0, 0)) ∧ Z.heap[g3]? = some (.cells #[.slice paa N pca, .slice raa M rca, .int .i64 x1, .int .i64 x2, .int .i64 x3] 32 (0, 0)) ∧ Z.heap[g4]? = some (.cells #[.slice pab N pcb, .slice rab M rcb, .int .i64 x1, .int .i64 x2, .int .i64 x3] 32 (0, 0))) [] (by kernel_rfl) ?_
  refine RG.wpL_any fun Y hY => ?_
  have hH : Y.heap = w6.heap := by rw [hY]; rfl
  have HTY : Hid (Y.heap[g]? = some (.cells #[.int .i64 a, .int .i64 q] 23 (0, 0)) ∧ Y.heap[g3]? = some (.cells #[.slice paa N pca, .slice raa M rca, .int .i64 x1, .int .i64 x2, .int .i64 x3] 32 (0, 0)) ∧ Y.heap[g4]? = some (.cells #[.slice pab N pcb, .slice rab M rcb, .int .i64 x1, .int .i64 x2, .int .i64 x3] 32 (0, 0))) := ⟨by rw [hH]; exact N0.out, by rw [hH]; exact M3.out, by rw [hH]; exact M4.out⟩
  have BYY : Hid (Below g w Y) := by rw [hY]; exact below_drewN HB.out 1
  have SA : Hid (SM Y s paa raa) := by rw [hY]; exact SA.out.below (below_drewN (Below.refl _ _) 1)
  have SB : Hid (SM Y s pab rab) := by rw [hY]; exact SB.out.below (below_drewN (Below.refl _ _) 1)
  clear hY hH
  refine RG.wpL_take (fuel := 37) (a' := ?Aa) [0, 2] (by kernel_rfl) (by kernel_rfl) (fun _ _ _ _ _ h => h) HTY.out (fun _ => trivial) ?ra ?_
  case ra =>
    refine RG.RunsIf.weak (v := .agg #[.int .i64 a, .int .i64 q]) (by rfl) (by rfl) (fun Z hT => ?_) ?_
    · obtain ⟨c0, c1⟩ := cells2 hT.1
      go_simp
    simp only [Act.put, List.setIfInBounds_toArray, List.set_cons_zero, List.set_cons_succ, List.getElem_toArray, List.getElem_cons_zero, List.getElem_cons_succ]
    refine RG.RunsIf.weak (v := .agg #[.int .i64 a, .int .i64 q]) (by rfl) (by rfl) (fun Z hT => ?_) ?_
    · obtain ⟨c0, c1⟩ := cells2 hT.1
      go_simp
    simp only [Act.put, List.setIfInBounds_toArray, List.set_cons_zero, List.set_cons_succ, List.getElem_toArray, List.getElem_cons_zero, List.getElem_cons_succ]
    exact RG.RunsIf.nil
  refine RG.wpL_step (i := 1) (by kernel_rfl) (by rfl) (by rfl) (fun KX hK => ?_)
  have HK := TW.hide hK
  clear hK
  go_simp
  refine (H7.out _).mono ?_
  rintro eZ1 Z1 ⟨rfl, hb⟩
  have HTZ1 := TW.hide (⟨blk_keep HTY.out.1 hb, blk_keep HTY.out.2.1 hb, blk_keep HTY.out.2.2 hb⟩ : Z1.heap[g]? = some (.cells #[.int .i64 a, .int .i64 q] 23 (0, 0)) ∧ Z1.heap[g3]? = some (.cells #[.slice paa N pca, .slice raa M rca, .int .i64 x1, .int .i64 x2, .int .i64 x3] 32 (0, 0)) ∧ Z1.heap[g4]? = some (.cells #[.slice pab N pcb, .slice rab M rcb, .int .i64 x1, .int .i64 x2, .int .i64 x3] 32 (0, 0)))
  have BYZ1 := TW.hide (BYY.out.trans (hb.mono (Nat.le_of_lt (blk_lt HTY.out.1))))
  have SA := TW.hide (SA.out.below hb)
  have SB := TW.hide (SB.out.below hb)
  refine HK.out _ _ HTZ1.out (fun _ => trivial) ?_
  clear HK KX hb HTY BYY
  try simp only [Act.put, List.setIfInBounds_toArray, List.set_cons_zero, List.set_cons_succ, List.getElem_toArray, List.getElem_cons_zero, List.getElem_cons_succ]
  refine RG.wpL_step (i := 3) (by kernel_rfl) (by rfl) (by rfl) (fun KX hK => ?_)
  have HK := TW.hide hK
  clear hK
  go_simp
  refine (H8.out _).mono ?_
  rintro eZ2 Z2 ⟨rfl, hb⟩
  have HTZ2 := TW.hide (⟨blk_keep HTZ1.out.1 hb, blk_keep HTZ1.out.2.1 hb, blk_keep HTZ1.out.2.2 hb⟩ : Z2.heap[g]? = some (.cells #[.int .i64 a, .int .i64 q] 23 (0, 0)) ∧ Z2.heap[g3]? = some (.cells #[.slice paa N pca, .slice raa M rca, .int .i64 x1, .int .i64 x2, .int .i64 x3] 32 (0, 0)) ∧ Z2.heap[g4]? = some (.cells #[.slice pab N pcb, .slice rab M rcb, .int .i64 x1, .int .i64 x2, .int .i64 x3] 32 (0, 0)))
  have BYZ2 := TW.hide (BYZ1.out.trans (hb.mono (Nat.le_of_lt (blk_lt HTZ1.out.1))))
  have SA := TW.hide (SA.out.below hb)
  have SB := TW.hide (SB.out.below hb)
  refine HK.out _ _ HTZ2.out (fun _ => trivial) ?_
  clear HK KX hb HTZ1 BYZ1
  try simp only [Act.put, List.setIfInBounds_toArray, List.set_cons_zero, List.set_cons_succ, List.getElem_toArray, List.getElem_cons_zero, List.getElem_cons_succ]
  refine RG.wpL_take (fuel := 21) (a' := ?Ab) [4, 5, 6, 7, 8, 9, 10, 11, 12, 13, 14, 15, 16, 17] (by kernel_rfl) (by kernel_rfl) (fun _ _ _ _ _ h => h) HTZ2.out (fun _ => trivial) ?rb ?_
  case rb =>
    refine RG.RunsIf.weak (v := .bool true) (by rfl) (by rfl) (fun Z hT => ?_) ?_
    · go_simp
    simp only [Act.put, List.setIfInBounds_toArray, List.set_cons_zero, List.set_cons_succ, List.getElem_toArray, List.getElem_cons_zero, List.getElem_cons_succ]
    refine RG.RunsIf.weak (v := ?_) (by rfl) (by rfl) (fun Z hT => ?_) ?_
    rotate_left
    · go_simp
      rfl
    simp only [Act.put, List.setIfInBounds_toArray, List.set_cons_zero, List.set_cons_succ, List.getElem_toArray, List.getElem_cons_zero, List.getElem_cons_succ]
    refine RG.RunsIf.weak (v := ?_) (by rfl) (by rfl) (fun Z hT => ?_) ?_
    rotate_left
    · go_simp
      rfl
    simp only [Act.put, List.setIfInBounds_toArray, List.set_cons_zero, List.set_cons_succ, List.getElem_toArray, List.getElem_cons_zero, List.getElem_cons_succ]
    refine RG.RunsIf.weak (v := ?_) (by rfl) (by rfl) (fun Z hT => ?_) ?_
    rotate_left
    · go_simp
      rfl
    simp only [Act.put, List.setIfInBounds_toArray, List.set_cons_zero, List.set_cons_succ, List.getElem_toArray, List.getElem_cons_zero, List.getElem_cons_succ]
    refine RG.RunsIf.weak (v := .bool true) (by rfl) (by rfl) (fun Z hT => ?_) ?_
    · go_simp
    simp only [Act.put, List.setIfInBounds_toArray, List.set_cons_zero, List.set_cons_succ, List.getElem_toArray, List.getElem_cons_zero, List.getElem_cons_succ]
    refine RG.RunsIf.weak (v := .bool true) (by rfl) (by rfl) (fun Z hT => ?_) ?_
    · go_simp
    simp only [Act.put, List.setIfInBounds_toArray, List.set_cons_zero, List.set_cons_succ, List.getElem_toArray, List.getElem_cons_zero, List.getElem_cons_succ]
    refine RG.RunsIf.weak (v := ?_) (by rfl) (by rfl) (fun Z hT => ?_) ?_
    rotate_left
    · go_simp
      rfl
    simp only [Act.put, List.setIfInBounds_toArray, List.set_cons_zero, List.set_cons_succ, List.getElem_toArray, List.getElem_cons_zero, List.getElem_cons_succ]
    refine RG.RunsIf.weak (v := ?_) (by rfl) (by rfl) (fun Z hT => ?_) ?_
    rotate_left
    · go_simp
      rfl
    simp only [Act.put, List.setIfInBounds_toArray, List.set_cons_zero, List.set_cons_succ, List.getElem_toArray, List.getElem_cons_zero, List.getElem_cons_succ]
    refine RG.RunsIf.weak (v := ?_) (by rfl) (by rfl) (fun Z hT => ?_) ?_
    rotate_left
    · go_simp
      rfl
    simp only [Act.put, List.setIfInBounds_toArray, List.set_cons_zero, List.set_cons_succ, List.getElem_toArray, List.getElem_cons_zero, List.getElem_cons_succ]
    refine RG.RunsIf.weak (v := .bool true) (by rfl) (by rfl) (fun Z hT => ?_) ?_
    · go_simp
    simp only [Act.put, List.setIfInBounds_toArray, List.set_cons_zero, List.set_cons_succ, List.getElem_toArray, List.getElem_cons_zero, List.getElem_cons_succ]
    refine RG.RunsIf.weak (v := .bool true) (by rfl) (by rfl) (fun Z hT => ?_) ?_
    · go_simp
    simp only [Act.put, List.setIfInBounds_toArray, List.set_cons_zero, List.set_cons_succ, List.getElem_toArray, List.getElem_cons_zero, List.getElem_cons_succ]
    refine RG.RunsIf.weak (v := ?_) (by rfl) (by rfl) (fun Z hT => ?_) ?_
    rotate_left
    · go_simp
      rfl
    simp only [Act.put, List.setIfInBounds_toArray, List.set_cons_zero, List.set_cons_succ, List.getElem_toArray, List.getElem_cons_zero, List.getElem_cons_succ]
    refine RG.RunsIf.weak (v := .agg #[.slice paa N pca, .slice raa M rca, .int .i64 x1, .int .i64 x2, .int .i64 x3]) (by rfl) (by rfl) (fun Z hT => ?_) ?_
    · obtain ⟨s0, s1, s2, s3, s4⟩ := cellsY5 hT.2.1
      go_simp
    simp only [Act.put, List.setIfInBounds_toArray, List.set_cons_zero, List.set_cons_succ, List.getElem_toArray, List.getElem_cons_zero, List.getElem_cons_succ]
    refine RG.RunsIf.weak (v := .agg #[.slice pab N pcb, .slice rab M rcb, .int .i64 x1, .int .i64 x2, .int .i64 x3]) (by rfl) (by rfl) (fun Z hT => ?_) ?_
    · obtain ⟨s0, s1, s2, s3, s4⟩ := cellsY5 hT.2.2
      go_simp
    simp only [Act.put, List.setIfInBounds_toArray, List.set_cons_zero, List.set_cons_succ, List.getElem_toArray, List.getElem_cons_zero, List.getElem_cons_succ]
    exact RG.RunsIf.nil
  refine RG.wpL_stepw (i := 18) (by kernel_rfl) (by rfl) (by rfl) (fun KX hK => ?_)
  have HK := TW.hide hK
  clear hK
  go_simp
  refine (HS.out paa raa pab rab pca rca pcb rcb _ SA.out SB.out).mono ?_
  rintro eZ3 Z3 ⟨rfl, hb⟩
  have HTZ3 := TW.hide (⟨blk_keep HTZ2.out.1 hb, blk_keep HTZ2.out.2.1 hb, blk_keep HTZ2.out.2.2 hb⟩ : Z3.heap[g]? = some (.cells #[.int .i64 a, .int .i64 q] 23 (0, 0)) ∧ Z3.heap[g3]? = some (.cells #[.slice paa N pca, .slice raa M rca, .int .i64 x1, .int .i64 x2, .int .i64 x3] 32 (0, 0)) ∧ Z3.heap[g4]? = some (.cells #[.slice pab N pcb, .slice rab M rcb, .int .i64 x1, .int .i64 x2, .int .i64 x3] 32 (0, 0)))
  have BYZ3 := TW.hide (BYZ2.out.trans (hb.mono (Nat.le_of_lt (blk_lt HTZ2.out.1))))
  have SA := TW.hide (SA.out.below hb)
  have SB := TW.hide (SB.out.below hb)
  refine HK.out _ _ HTZ3.out (fun _ => trivial) ?_
  clear HK KX hb HTZ2 BYZ2
  try simp only [Act.put, List.setIfInBounds_toArray, List.set_cons_zero, List.set_cons_succ, List.getElem_toArray, List.getElem_cons_zero, List.getElem_cons_succ]
  refine RG.wpL_take (fuel := 3) (a' := ?Ac) [19, 20, 21, 22, 23, 24, 25, 26, 27, 28, 29, 30, 31, 32, 33, 34, 35] (by kernel_rfl) (by kernel_rfl) (fun _ _ _ _ _ h => h) HTZ3.out (fun _ => trivial) ?rc ?_
  case rc =>
    refine RG.RunsIf.weak (v := .bool true) (by rfl) (by rfl) (fun Z hT => ?_) ?_
    · go_simp
    simp only [Act.put, List.setIfInBounds_toArray, List.set_cons_zero, List.set_cons_succ, List.getElem_toArray, List.getElem_cons_zero, List.getElem_cons_succ]
    refine RG.RunsIf.weak (v := ?_) (by rfl) (by rfl) (fun Z hT => ?_) ?_
    rotate_left
    · go_simp
      rfl
    simp only [Act.put, List.setIfInBounds_toArray, List.set_cons_zero, List.set_cons_succ, List.getElem_toArray, List.getElem_cons_zero, List.getElem_cons_succ]
    refine RG.RunsIf.weak (v := ?_) (by rfl) (by rfl) (fun Z hT => ?_) ?_
    rotate_left
    · go_simp
      rfl
    simp only [Act.put, List.setIfInBounds_toArray, List.set_cons_zero, List.set_cons_succ, List.getElem_toArray, List.getElem_cons_zero, List.getElem_cons_succ]
    refine RG.RunsIf.weak (v := ?_) (by rfl) (by rfl) (fun Z hT => ?_) ?_
    rotate_left
    · go_simp
      rfl
    simp only [Act.put, List.setIfInBounds_toArray, List.set_cons_zero, List.set_cons_succ, List.getElem_toArray, List.getElem_cons_zero, List.getElem_cons_succ]
    refine RG.RunsIf.weak (v := .bool true) (by rfl) (by rfl) (fun Z hT => ?_) ?_
    · go_simp
    simp only [Act.put, List.setIfInBounds_toArray, List.set_cons_zero, List.set_cons_succ, List.getElem_toArray, List.getElem_cons_zero, List.getElem_cons_succ]
    refine RG.RunsIf.weak (v := .bool true) (by rfl) (by rfl) (fun Z hT => ?_) ?_
    · go_simp
    simp only [Act.put, List.setIfInBounds_toArray, List.set_cons_zero, List.set_cons_succ, List.getElem_toArray, List.getElem_cons_zero, List.getElem_cons_succ]
    refine RG.RunsIf.weak (v := ?_) (by rfl) (by rfl) (fun Z hT => ?_) ?_
    rotate_left
    · go_simp
      rfl
    simp only [Act.put, List.setIfInBounds_toArray, List.set_cons_zero, List.set_cons_succ, List.getElem_toArray, List.getElem_cons_zero, List.getElem_cons_succ]
    refine RG.RunsIf.weak (v := ?_) (by rfl) (by rfl) (fun Z hT => ?_) ?_
    rotate_left
    · go_simp
      rfl
    simp only [Act.put, List.setIfInBounds_toArray, List.set_cons_zero, List.set_cons_succ, List.getElem_toArray, List.getElem_cons_zero, List.getElem_cons_succ]
    refine RG.RunsIf.weak (v := ?_) (by rfl) (by rfl) (fun Z hT => ?_) ?_
    rotate_left
    · go_simp
      rfl
    simp only [Act.put, List.setIfInBounds_toArray, List.set_cons_zero, List.set_cons_succ, List.getElem_toArray, List.getElem_cons_zero, List.getElem_cons_succ]
    refine RG.RunsIf.weak (v := .bool true) (by rfl) (by rfl) (fun Z hT => ?_) ?_
    · go_simp
    simp only [Act.put, List.setIfInBounds_toArray, List.set_cons_zero, List.set_cons_succ, List.getElem_toArray, List.getElem_cons_zero, List.getElem_cons_succ]
    refine RG.RunsIf.weak (v := .bool true) (by rfl) (by rfl) (fun Z hT => ?_) ?_
    · go_simp
    simp only [Act.put, List.setIfInBounds_toArray, List.set_cons_zero, List.set_cons_succ, List.getElem_toArray, List.getElem_cons_zero, List.getElem_cons_succ]
    refine RG.RunsIf.weak (v := ?_) (by rfl) (by rfl) (fun Z hT => ?_) ?_
    rotate_left
    · go_simp
      rfl
    simp only [Act.put, List.setIfInBounds_toArray, List.set_cons_zero, List.set_cons_succ, List.getElem_toArray, List.getElem_cons_zero, List.getElem_cons_succ]
    refine RG.RunsIf.weak (v := ?_) (by rfl) (by rfl) (fun Z hT => ?_) ?_
    rotate_left
    · go_simp
      rfl
    simp only [Act.put, List.setIfInBounds_toArray, List.set_cons_zero, List.set_cons_succ, List.getElem_toArray, List.getElem_cons_zero, List.getElem_cons_succ]
    refine RG.RunsIf.weak (v := ?_) (by rfl) (by rfl) (fun Z hT => ?_) ?_
    rotate_left
    · go_simp
      rfl
    simp only [Act.put, List.setIfInBounds_toArray, List.set_cons_zero, List.set_cons_succ, List.getElem_toArray, List.getElem_cons_zero, List.getElem_cons_succ]
    refine RG.RunsIf.weak (v := .bool true) (by rfl) (by rfl) (fun Z hT => ?_) ?_
    · go_simp
    simp only [Act.put, List.setIfInBounds_toArray, List.set_cons_zero, List.set_cons_succ, List.getElem_toArray, List.getElem_cons_zero, List.getElem_cons_succ]
    refine RG.RunsIf.weak (v := .bool true) (by rfl) (by rfl) (fun Z hT => ?_) ?_
    · go_simp
    simp only [Act.put, List.setIfInBounds_toArray, List.set_cons_zero, List.set_cons_succ, List.getElem_toArray, List.getElem_cons_zero, List.getElem_cons_succ]
    refine RG.RunsIf.weak (v := ?_) (by rfl) (by rfl) (fun Z hT => ?_) ?_
    rotate_left
    · go_simp
      rfl
    simp only [Act.put, List.setIfInBounds_toArray, List.set_cons_zero, List.set_cons_succ, List.getElem_toArray, List.getElem_cons_zero, List.getElem_cons_succ]
    exact RG.RunsIf.nil
  refine RG.wpL_stepw (i := 36) (by kernel_rfl) (by rfl) (by rfl) (fun KX hK => ?_)
  have HK := TW.hide hK
  clear hK
  go_simp
  refine (HA.out _).mono ?_
  rintro eZ4 Z4 ⟨rfl, hb⟩
  have HTZ4 := TW.hide (⟨blk_keep HTZ3.out.1 hb, blk_keep HTZ3.out.2.1 hb, blk_keep HTZ3.out.2.2 hb⟩ : Z4.heap[g]? = some (.cells #[.int .i64 a, .int .i64 q] 23 (0, 0)) ∧ Z4.heap[g3]? = some (.cells #[.slice paa N pca, .slice raa M rca, .int .i64 x1, .int .i64 x2, .int .i64 x3] 32 (0, 0)) ∧ Z4.heap[g4]? = some (.cells #[.slice pab N pcb, .slice rab M rcb, .int .i64 x1, .int .i64 x2, .int .i64 x3] 32 (0, 0)))
  have BYZ4 := TW.hide (BYZ3.out.trans (hb.mono (Nat.le_of_lt (blk_lt HTZ3.out.1))))
  have SA := TW.hide (SA.out.below hb)
  have SB := TW.hide (SB.out.below hb)
  refine HK.out _ _ HTZ4.out (fun _ => trivial) ?_
  clear HK KX hb HTZ3 BYZ3
  try simp only [Act.put, List.setIfInBounds_toArray, List.set_cons_zero, List.set_cons_succ, List.getElem_toArray, List.getElem_cons_zero, List.getElem_cons_succ]
  refine RG.wpL_take (fuel := 0) (a' := ?Ad) [37, 38] (by kernel_rfl) (by kernel_rfl) (fun _ _ _ _ _ h => h) HTZ4.out (fun _ => trivial) ?rd ?_
  case rd =>
    refine RG.RunsIf.weak (v := .bool true) (by rfl) (by rfl) (fun Z hT => ?_) ?_
    · go_simp
    simp only [Act.put, List.setIfInBounds_toArray, List.set_cons_zero, List.set_cons_succ, List.getElem_toArray, List.getElem_cons_zero, List.getElem_cons_succ]
    refine RG.RunsIf.weak (v := ?_) (by rfl) (by rfl) (fun Z hT => ?_) ?_
    rotate_left
    · go_simp
      rfl
    simp only [Act.put, List.setIfInBounds_toArray, List.set_cons_zero, List.set_cons_succ, List.getElem_toArray, List.getElem_cons_zero, List.getElem_cons_succ]
    exact RG.RunsIf.nil
  refine RG.wpL_done (by kernel_rfl) ?_ _
  refine NoPanic.normal ?_
  go_wp2
  go_ret
  exact ⟨rfl, by rw [HG.out]; exact BYZ4.out⟩
end LW
end Go.Proofs.Ytlmnllgcoikkmaa
