/-
  The law on Blend and Perm.
-/
import Derived.Test.YtkgemkfajkcgcaaDoorPrm
import Derived.Test.YtkgemkfajkcgcaaDoorRPrm
namespace Go.Proofs.YtkgemkfajkcgcaaDoor
open Go.RowKit
set_option linter.unusedVariables false
set_option linter.unusedSimpArgs false
set_option maxRecDepth 100000
namespace LW
open Turn
attribute [local go_sem ↓] Go.wp_at_zero Go.wp_at_succ
set_option maxHeartbeats 2000000 in
theorem awake19 (w : World) : Calls Tryd.prog 10 #[] w fun e w' => e = .returned (.bool true) ∧ Below w.heap.size w w' := by
  have hW1 : W 1 := ⟨by decide, by decide⟩
  have hW0 : W 0 := ⟨by decide, by decide⟩
  have HB := TW.hide (fun W => blend 1 0 0 0 W hW1 hW0 hW0 hW0)
  have HR := TW.hide (fun W => rblend 1 0 0 0 W hW1 hW0 hW0 hW0)
  have hne : ((blL 1 0 0 0).1 != 1) = true := by decide +kernel
  generalize blL 1 0 0 0 = q at *
  obtain ⟨r0, r1, r2, r3⟩ := q
  simp only at HB HR hne
  have HR' : Hid (∀ W, Calls Tryd.prog 7 #[.int .u64 1, .int .u64 0, .int .u64 0, .int .u64 0] W fun e w' => e = .returned (.agg (K .u64 [r0, r1, r2, r3])) ∧ Below W.heap.size W w') := HR.out
  have HNE := TW.hide hne
  clear hW1 hW0 HR hne
  go_enter Tryd.func10, Tryd.ntmps10
  refine wp_seq_k fun K hK => ?_
  have HK := TW.hide hK
  clear hK
  go_wp2
  refine HK.out _ _ ?_
  clear HK K
  refine wp_seq_k fun K hK => ?_
  have HK := TW.hide hK
  clear hK
  go_wp2_with fail
  refine (HB.out _).mono ?_
  rintro e w' ⟨rfl, rfl⟩
  go_wp2
  refine HK.out _ _ ?_
  clear HK K
  refine wp_seq_k fun KK hK => ?_
  have HK := TW.hide hK
  clear hK
  go_wp2_with fail
  refine (HR'.out _).mono ?_
  rintro e w1 ⟨rfl, hb1⟩
  have HB1 := TW.hide hb1
  clear hb1
  go_wp2_with (first | (refine wpList_store_row (by rfl) 26 _ _ (by rfl) w1.heap.size (K .u64 [r0, r1, r2, r3]) (by rfl) (by rfl) 26 _ (heap_new w1 _) (by kernel_rfl) (by kernel_rfl) (K_one _ _) ?_))
  have nO := setRow_heap _ _ _ (K .u64 [r0, r1, r2, r3]) _ _ (heap_new w1 (.cells #[.int .u64 0, .int .u64 0, .int .u64 0, .int .u64 0] 26))
  have bO := below_setRow (cs := (K .u64 [r0, r1, r2, r3])) ((Below.refl w1.heap.size w1).alloc (Nat.le_refl _) (.cells #[.int .u64 0, .int .u64 0, .int .u64 0, .int .u64 0] 26)) (g := w1.heap.size) (Nat.le_refl _)
  generalize (w1.alloc (.cells #[.int .u64 0, .int .u64 0, .int .u64 0, .int .u64 0] 26)).setRow w1.heap.size (K .u64 [r0, r1, r2, r3]) = X1 at nO bO ⊢
  refine HK.out _ _ ?_
  clear HK KK
  try simp only [Act.put]
  have c0 := blk_cellK nO (i := 0) (by simp)
  have c1 := blk_cellK nO (i := 1) (by simp)
  have c2 := blk_cellK nO (i := 2) (by simp)
  have c3 := blk_cellK nO (i := 3) (by simp)
  simp only [List.getD_cons_zero, List.getD_cons_succ] at c0 c1 c2 c3
  have HBX : Hid (Below w.heap.size w X1) := below_row HB1.out bO HB1.out.size
  have hne := HNE.out
  clear nO bO
  go_wp2
  go_ret
  exact ⟨rfl, HBX.out⟩
set_option maxHeartbeats 8000000 in
theorem blendsW (vs : List Int) (w : World) (hp : Tab w 0 .u8 plL) (hv : vs.length = 16) (hV : Ws vs) :
    Calls Tryd.prog 3 #[.agg (K .u64 vs)] w fun e w' => e = .returned (.bool true) ∧ Below w.heap.size w w' := by
  have HPm := TW.hide (fun W h => perm vs W hv hV h)
  have HRp := TW.hide (fun W => rperm vs W hv hV)
  have HB := TW.hide (fun W => blend (vs.getD 0 0) (vs.getD 1 0) (vs.getD 2 0) (vs.getD 3 0) W (hV.get _) (hV.get _) (hV.get _) (hV.get _))
  have HR := TW.hide (fun W => rblend (vs.getD 0 0) (vs.getD 1 0) (vs.getD 2 0) (vs.getD 3 0) W (hV.get _) (hV.get _) (hV.get _) (hV.get _))
  have heq := fun Z => run_eql_K (P := Tryd.prog) Z .u64 (t := 23) Tryd.underlying23 Tryd.underlying22 (by kernel_rfl) (by kernel_rfl) (pmL vs) (pmL vs) (by rw [pmL_length, hv]) (by rw [pmL_length, hv])
  have heq2 := fun Z => run_equal_K (P := Tryd.prog) Z .u64 (t := 23) Tryd.underlying23 Tryd.underlying22 (by kernel_rfl) (by kernel_rfl) (pmL vs) (pmL vs) (by rw [pmL_length, hv]) (by rw [pmL_length, hv])
  have hiv : (Tryd.prog.info? 23).map (·.size) = some (K .u64 vs).size := by rw [K_size, hv]; kernel_rfl
  simp only [decide_true] at heq heq2
  have HEQ := TW.hide heq
  have HEQ2 := TW.hide heq2
  have HIV := TW.hide hiv
  clear heq heq2 hiv
  generalize pmL vs = pm at *
  have hb := ((Below.refl w.heap.size w).alloc (Nat.le_refl _) (.cells (K .u64 vs) 23))
  have n0 := (heap_new w (.cells (K .u64 vs) 23))
  go_enter Tryd.func3, Tryd.ntmps3
  refine wp_seq_k fun K hK => ?_
  have HK := TW.hide hK
  clear hK
  go_wp2
  refine HK.out _ _ ?_
  clear HK K
  change Code.wp _ _ _ _ (w.alloc (.cells (K .u64 vs) 23))
  generalize hWW : w.alloc (.cells (K .u64 vs) 23) = W at hb n0 ⊢
  have hW : W.heap.size = w.heap.size + 1 := by rw [← hWW]; simp
  clear hWW
  have HP : Hid (Tab W 0 .u8 plL) := hp.below hb
  generalize hB : w.heap.size = B at *
  have H0 := TW.hide n0
  have NB := TW.hide hb
  clear n0 hb
  clear hp hB hW
  have c0 := blk_cellK H0.out (i := 0) (by omega)
  have c1 := blk_cellK H0.out (i := 1) (by omega)
  have c2 := blk_cellK H0.out (i := 2) (by omega)
  have c3 := blk_cellK H0.out (i := 3) (by omega)
  generalize vs.getD 0 0 = va at *
  generalize vs.getD 1 0 = vb at *
  generalize vs.getD 2 0 = vc at *
  generalize vs.getD 3 0 = vd at *
  generalize blL va vb vc vd = q at *
  obtain ⟨r0, r1, r2, r3⟩ := q
  simp only at HB HR
  have HR' : Hid (∀ W, Calls Tryd.prog 7 #[.int .u64 va, .int .u64 vb, .int .u64 vc, .int .u64 vd] W fun e w' => e = .returned (.agg (K .u64 [r0, r1, r2, r3])) ∧ Below W.heap.size W w') := HR.out
  clear HR hV
  refine wp_seq_k fun K hK => ?_
  have HK := TW.hide hK
  clear hK
  go_wp2_with fail
  refine (HB.out _).mono ?_
  rintro e w' ⟨rfl, rfl⟩
  go_wp2
  refine HK.out _ _ ?_
  clear HK K HB
  refine wp_seq_k fun KK hK => ?_
  have HK := TW.hide hK
  clear hK
  go_wp2_with fail
  refine (HR'.out _).mono ?_
  rintro e w1 ⟨rfl, hb1⟩
  have M0 := TW.hide (blk_keep H0.out hb1)
  have MB : Hid (Below B w w1) := below_row NB.out hb1 (by have := blk_lt H0.out; omega)
  have HP1 : Hid (Tab w1 0 .u8 plL) := HP.out.below hb1
  clear hb1 c0 c1 c2 c3 H0 NB HP HR'
  go_wp2_with (first | (refine wpList_store_row (by rfl) 26 _ _ (by rfl) w1.heap.size (K .u64 [r0, r1, r2, r3]) (by rfl) (by rfl) 26 _ (heap_new w1 _) (by kernel_rfl) (by kernel_rfl) (K_one _ _) ?_))
  have nO := setRow_heap _ _ _ (K .u64 [r0, r1, r2, r3]) _ _ (heap_new w1 (.cells #[.int .u64 0, .int .u64 0, .int .u64 0, .int .u64 0] 26))
  have bO := below_setRow (cs := (K .u64 [r0, r1, r2, r3])) ((Below.refl w1.heap.size w1).alloc (Nat.le_refl _) (.cells #[.int .u64 0, .int .u64 0, .int .u64 0, .int .u64 0] 26)) (g := w1.heap.size) (Nat.le_refl _)
  generalize (w1.alloc (.cells #[.int .u64 0, .int .u64 0, .int .u64 0, .int .u64 0] 26)).setRow w1.heap.size (K .u64 [r0, r1, r2, r3]) = XA at nO bO ⊢
  refine HK.out _ _ ?_
  clear HK KK
  try simp only [Act.put]
  have NV : Hid (XA.heap[B]? = some (.cells (K .u64 vs) 23 (0, 0))) := blk_keep M0.out bO
  have NB : Hid (Below B w XA) := below_row MB.out bO (by have := blk_lt M0.out; omega)
  have HP : Hid (Tab XA 0 .u8 plL) := HP1.out.below bO
  have NO := TW.hide nO
  clear bO nO M0 MB HP1
  generalize w1.heap.size = g at *
  have HCC : Hid (∀ Z : World, Below XA.heap.size XA Z → Z.cell? ⟨g, 0, none⟩ = some (.int .u64 r0) ∧ Z.cell? ⟨g, 1, none⟩ = some (.int .u64 r1) ∧ Z.cell? ⟨g, 2, none⟩ = some (.int .u64 r2) ∧ Z.cell? ⟨g, 3, none⟩ = some (.int .u64 r3)) := fun Z hZ => by
    have h0 := blk_keep NO.out hZ
    exact ⟨blk_cell h0 (i := 0) rfl, blk_cell h0 (i := 1) rfl, blk_cell h0 (i := 2) rfl, blk_cell h0 (i := 3) rfl⟩
  have HT : Hid (Below XA.heap.size XA XA) := Below.refl _ _
  refine wp_seq_k fun Kr hKr => ?_
  have HKr := TW.hide hKr
  clear hKr
  refine wp_region_noPanic ?_
  refine RG.wp_region_L (fun Z => True) (fun Z => Below XA.heap.size XA Z) [] (by kernel_rfl) ?_
  refine RG.wpL_any fun Ya hY => ?_
  have HTa : Hid (Below XA.heap.size XA Ya) := by rw [hY]; exact below_drewN HT.out 1
  clear hY
  refine RG.wpL_take (fuel := 8) (a' := ?Aa) [0, 1, 2, 3, 4, 5, 6, 7, 8, 9, 10, 11, 12, 13, 14, 15, 16, 17, 18, 19, 20, 21, 22, 23, 25] (by kernel_rfl) (by kernel_rfl) (fun _ _ _ _ _ h => h) HTa.out (fun _ => trivial) ?ra ?_
  case ra =>
    refine RG.RunsIf.weak (v := ?_) (by rfl) (by rfl) (fun Z hT => ?_) ?_
    rotate_left
    · obtain ⟨z0, z1, z2, z3⟩ := HCC.out Z hT
      go_simp
      rfl
    simp only [Act.put, List.setIfInBounds_toArray, List.set_cons_zero, List.set_cons_succ, List.getElem_toArray, List.getElem_cons_zero, List.getElem_cons_succ]
    refine RG.RunsIf.weak (v := ?_) (by rfl) (by rfl) (fun Z hT => ?_) ?_
    rotate_left
    · obtain ⟨z0, z1, z2, z3⟩ := HCC.out Z hT
      go_simp
      rfl
    simp only [Act.put, List.setIfInBounds_toArray, List.set_cons_zero, List.set_cons_succ, List.getElem_toArray, List.getElem_cons_zero, List.getElem_cons_succ]
    refine RG.RunsIf.weak (v := ?_) (by rfl) (by rfl) (fun Z hT => ?_) ?_
    rotate_left
    · obtain ⟨z0, z1, z2, z3⟩ := HCC.out Z hT
      go_simp
      rfl
    simp only [Act.put, List.setIfInBounds_toArray, List.set_cons_zero, List.set_cons_succ, List.getElem_toArray, List.getElem_cons_zero, List.getElem_cons_succ]
    refine RG.RunsIf.weak (v := ?_) (by rfl) (by rfl) (fun Z hT => ?_) ?_
    rotate_left
    · obtain ⟨z0, z1, z2, z3⟩ := HCC.out Z hT
      go_simp
      rfl
    simp only [Act.put, List.setIfInBounds_toArray, List.set_cons_zero, List.set_cons_succ, List.getElem_toArray, List.getElem_cons_zero, List.getElem_cons_succ]
    refine RG.RunsIf.weak (v := ?_) (by rfl) (by rfl) (fun Z hT => ?_) ?_
    rotate_left
    · obtain ⟨z0, z1, z2, z3⟩ := HCC.out Z hT
      go_simp
      rfl
    simp only [Act.put, List.setIfInBounds_toArray, List.set_cons_zero, List.set_cons_succ, List.getElem_toArray, List.getElem_cons_zero, List.getElem_cons_succ]
    refine RG.RunsIf.weak (v := ?_) (by rfl) (by rfl) (fun Z hT => ?_) ?_
    rotate_left
    · obtain ⟨z0, z1, z2, z3⟩ := HCC.out Z hT
      go_simp
      rfl
    simp only [Act.put, List.setIfInBounds_toArray, List.set_cons_zero, List.set_cons_succ, List.getElem_toArray, List.getElem_cons_zero, List.getElem_cons_succ]
    refine RG.RunsIf.weak (v := ?_) (by rfl) (by rfl) (fun Z hT => ?_) ?_
    rotate_left
    · obtain ⟨z0, z1, z2, z3⟩ := HCC.out Z hT
      go_simp
      rfl
    simp only [Act.put, List.setIfInBounds_toArray, List.set_cons_zero, List.set_cons_succ, List.getElem_toArray, List.getElem_cons_zero, List.getElem_cons_succ]
    refine RG.RunsIf.weak (v := ?_) (by rfl) (by rfl) (fun Z hT => ?_) ?_
    rotate_left
    · obtain ⟨z0, z1, z2, z3⟩ := HCC.out Z hT
      go_simp
      rfl
    simp only [Act.put, List.setIfInBounds_toArray, List.set_cons_zero, List.set_cons_succ, List.getElem_toArray, List.getElem_cons_zero, List.getElem_cons_succ]
    refine RG.RunsIf.weak (v := ?_) (by rfl) (by rfl) (fun Z hT => ?_) ?_
    rotate_left
    · obtain ⟨z0, z1, z2, z3⟩ := HCC.out Z hT
      go_simp
      rfl
    simp only [Act.put, List.setIfInBounds_toArray, List.set_cons_zero, List.set_cons_succ, List.getElem_toArray, List.getElem_cons_zero, List.getElem_cons_succ]
    refine RG.RunsIf.weak (v := ?_) (by rfl) (by rfl) (fun Z hT => ?_) ?_
    rotate_left
    · obtain ⟨z0, z1, z2, z3⟩ := HCC.out Z hT
      go_simp
      rfl
    simp only [Act.put, List.setIfInBounds_toArray, List.set_cons_zero, List.set_cons_succ, List.getElem_toArray, List.getElem_cons_zero, List.getElem_cons_succ]
    refine RG.RunsIf.weak (v := ?_) (by rfl) (by rfl) (fun Z hT => ?_) ?_
    rotate_left
    · obtain ⟨z0, z1, z2, z3⟩ := HCC.out Z hT
      go_simp
      rfl
    simp only [Act.put, List.setIfInBounds_toArray, List.set_cons_zero, List.set_cons_succ, List.getElem_toArray, List.getElem_cons_zero, List.getElem_cons_succ]
    refine RG.RunsIf.weak (v := ?_) (by rfl) (by rfl) (fun Z hT => ?_) ?_
    rotate_left
    · obtain ⟨z0, z1, z2, z3⟩ := HCC.out Z hT
      go_simp
      rfl
    simp only [Act.put, List.setIfInBounds_toArray, List.set_cons_zero, List.set_cons_succ, List.getElem_toArray, List.getElem_cons_zero, List.getElem_cons_succ]
    refine RG.RunsIf.weak (v := ?_) (by rfl) (by rfl) (fun Z hT => ?_) ?_
    rotate_left
    · obtain ⟨z0, z1, z2, z3⟩ := HCC.out Z hT
      go_simp
      rfl
    simp only [Act.put, List.setIfInBounds_toArray, List.set_cons_zero, List.set_cons_succ, List.getElem_toArray, List.getElem_cons_zero, List.getElem_cons_succ]
    refine RG.RunsIf.weak (v := ?_) (by rfl) (by rfl) (fun Z hT => ?_) ?_
    rotate_left
    · obtain ⟨z0, z1, z2, z3⟩ := HCC.out Z hT
      go_simp
      rfl
    simp only [Act.put, List.setIfInBounds_toArray, List.set_cons_zero, List.set_cons_succ, List.getElem_toArray, List.getElem_cons_zero, List.getElem_cons_succ]
    refine RG.RunsIf.weak (v := ?_) (by rfl) (by rfl) (fun Z hT => ?_) ?_
    rotate_left
    · obtain ⟨z0, z1, z2, z3⟩ := HCC.out Z hT
      go_simp
      rfl
    simp only [Act.put, List.setIfInBounds_toArray, List.set_cons_zero, List.set_cons_succ, List.getElem_toArray, List.getElem_cons_zero, List.getElem_cons_succ]
    refine RG.RunsIf.weak (v := ?_) (by rfl) (by rfl) (fun Z hT => ?_) ?_
    rotate_left
    · obtain ⟨z0, z1, z2, z3⟩ := HCC.out Z hT
      go_simp
      rfl
    simp only [Act.put, List.setIfInBounds_toArray, List.set_cons_zero, List.set_cons_succ, List.getElem_toArray, List.getElem_cons_zero, List.getElem_cons_succ]
    refine RG.RunsIf.weak (v := ?_) (by rfl) (by rfl) (fun Z hT => ?_) ?_
    rotate_left
    · obtain ⟨z0, z1, z2, z3⟩ := HCC.out Z hT
      go_simp
      rfl
    simp only [Act.put, List.setIfInBounds_toArray, List.set_cons_zero, List.set_cons_succ, List.getElem_toArray, List.getElem_cons_zero, List.getElem_cons_succ]
    refine RG.RunsIf.weak (v := ?_) (by rfl) (by rfl) (fun Z hT => ?_) ?_
    rotate_left
    · obtain ⟨z0, z1, z2, z3⟩ := HCC.out Z hT
      go_simp
      rfl
    simp only [Act.put, List.setIfInBounds_toArray, List.set_cons_zero, List.set_cons_succ, List.getElem_toArray, List.getElem_cons_zero, List.getElem_cons_succ]
    refine RG.RunsIf.weak (v := ?_) (by rfl) (by rfl) (fun Z hT => ?_) ?_
    rotate_left
    · obtain ⟨z0, z1, z2, z3⟩ := HCC.out Z hT
      go_simp
      rfl
    simp only [Act.put, List.setIfInBounds_toArray, List.set_cons_zero, List.set_cons_succ, List.getElem_toArray, List.getElem_cons_zero, List.getElem_cons_succ]
    refine RG.RunsIf.weak (v := ?_) (by rfl) (by rfl) (fun Z hT => ?_) ?_
    rotate_left
    · obtain ⟨z0, z1, z2, z3⟩ := HCC.out Z hT
      go_simp
      rfl
    simp only [Act.put, List.setIfInBounds_toArray, List.set_cons_zero, List.set_cons_succ, List.getElem_toArray, List.getElem_cons_zero, List.getElem_cons_succ]
    refine RG.RunsIf.weak (v := ?_) (by rfl) (by rfl) (fun Z hT => ?_) ?_
    rotate_left
    · obtain ⟨z0, z1, z2, z3⟩ := HCC.out Z hT
      go_simp
      rfl
    simp only [Act.put, List.setIfInBounds_toArray, List.set_cons_zero, List.set_cons_succ, List.getElem_toArray, List.getElem_cons_zero, List.getElem_cons_succ]
    refine RG.RunsIf.weak (v := ?_) (by rfl) (by rfl) (fun Z hT => ?_) ?_
    rotate_left
    · obtain ⟨z0, z1, z2, z3⟩ := HCC.out Z hT
      go_simp
      rfl
    simp only [Act.put, List.setIfInBounds_toArray, List.set_cons_zero, List.set_cons_succ, List.getElem_toArray, List.getElem_cons_zero, List.getElem_cons_succ]
    refine RG.RunsIf.weak (v := ?_) (by rfl) (by rfl) (fun Z hT => ?_) ?_
    rotate_left
    · obtain ⟨z0, z1, z2, z3⟩ := HCC.out Z hT
      go_simp
      rfl
    simp only [Act.put, List.setIfInBounds_toArray, List.set_cons_zero, List.set_cons_succ, List.getElem_toArray, List.getElem_cons_zero, List.getElem_cons_succ]
    refine RG.RunsIf.weak (v := .agg (K .u64 vs)) (by rfl) (by rfl) (fun Z hT => exec_load_row' 23 _ (by rfl) B (by rfl) 23 (K .u64 vs) (0, 0) _ (blk_keep NV.out hT) Tryd.underlying23 rfl HIV.out) ?_
    simp only [Act.put, List.setIfInBounds_toArray, List.set_cons_zero, List.set_cons_succ, List.getElem_toArray, List.getElem_cons_zero, List.getElem_cons_succ]
    refine RG.RunsIf.weak (v := .agg (K .u64 vs)) (by rfl) (by rfl) (fun Z hT => exec_load_row' 23 _ (by rfl) B (by rfl) 23 (K .u64 vs) (0, 0) _ (blk_keep NV.out hT) Tryd.underlying23 rfl HIV.out) ?_
    simp only [Act.put, List.setIfInBounds_toArray, List.set_cons_zero, List.set_cons_succ, List.getElem_toArray, List.getElem_cons_zero, List.getElem_cons_succ]
    exact RG.RunsIf.nil
  refine RG.wpL_stepw (i := 24) (by kernel_rfl) (by rfl) (by rfl) (fun KX hK => ?_)
  have HK := TW.hide hK
  clear hK
  go_simp
  refine (HPm.out _ (HP.out.below HTa.out)).mono ?_
  rintro e W1 ⟨rfl, hb1⟩
  have HW1 : Hid (Below XA.heap.size XA W1) := below_row HTa.out hb1 HTa.out.size
  refine HK.out _ _ HW1.out (fun _ => trivial) ?_
  clear HK KX hb1
  try simp only [Act.put, List.setIfInBounds_toArray, List.set_cons_zero, List.set_cons_succ, List.getElem_toArray, List.getElem_cons_zero, List.getElem_cons_succ]
  refine RG.wpL_stepw (i := 26) (by kernel_rfl) (by rfl) (by rfl) (fun KX hK => ?_)
  have HK := TW.hide hK
  clear hK
  go_simp
  refine (HRp.out _).mono ?_
  rintro e W2 ⟨rfl, hb1⟩
  have HW2 : Hid (Below XA.heap.size XA W2) := below_row HW1.out hb1 HW1.out.size
  refine HK.out _ _ HW2.out (fun _ => trivial) ?_
  clear HK KX hb1
  try simp only [Act.put, List.setIfInBounds_toArray, List.set_cons_zero, List.set_cons_succ, List.getElem_toArray, List.getElem_cons_zero, List.getElem_cons_succ]
  have q1 := HEQ.out
  have q2 := HEQ2.out
  refine RG.wpL_stepw (i := 27) (by kernel_rfl) (by rfl) (by rfl) (fun KX hK => ?_)
  have HK := TW.hide hK
  clear hK
  go_simp
  refine HK.out _ _ HW2.out (fun _ => trivial) ?_
  clear HK KX
  try simp only [Act.put, List.setIfInBounds_toArray, List.set_cons_zero, List.set_cons_succ, List.getElem_toArray, List.getElem_cons_zero, List.getElem_cons_succ]
  refine RG.wpL_stepw (i := 28) (by kernel_rfl) (by rfl) (by rfl) (fun KX hK => ?_)
  have HK := TW.hide hK
  clear hK
  go_simp
  refine HK.out _ _ HW2.out (fun _ => trivial) ?_
  clear HK KX
  try simp only [Act.put, List.setIfInBounds_toArray, List.set_cons_zero, List.set_cons_succ, List.getElem_toArray, List.getElem_cons_zero, List.getElem_cons_succ]
  refine RG.wpL_stepw (i := 29) (by kernel_rfl) (by rfl) (by rfl) (fun KX hK => ?_)
  have HK := TW.hide hK
  clear hK
  go_simp
  refine HK.out _ _ HW2.out (fun _ => trivial) ?_
  clear HK KX
  try simp only [Act.put, List.setIfInBounds_toArray, List.set_cons_zero, List.set_cons_succ, List.getElem_toArray, List.getElem_cons_zero, List.getElem_cons_succ]
  refine RG.wpL_stepw (i := 30) (by kernel_rfl) (by rfl) (by rfl) (fun KX hK => ?_)
  have HK := TW.hide hK
  clear hK
  go_simp
  refine (awake19 _).mono ?_
  rintro e W3 ⟨rfl, hb1⟩
  have HW3 : Hid (Below XA.heap.size XA W3) := below_row HW2.out hb1 HW2.out.size
  refine HK.out _ _ HW3.out (fun _ => trivial) ?_
  clear HK KX hb1
  try simp only [Act.put, List.setIfInBounds_toArray, List.set_cons_zero, List.set_cons_succ, List.getElem_toArray, List.getElem_cons_zero, List.getElem_cons_succ]
  refine RG.wpL_stepw (i := 31) (by kernel_rfl) (by rfl) (by rfl) (fun KX hK => ?_)
  have HK := TW.hide hK
  clear hK
  go_simp
  refine HK.out _ _ HW3.out (fun _ => trivial) ?_
  clear HK KX
  try simp only [Act.put, List.setIfInBounds_toArray, List.set_cons_zero, List.set_cons_succ, List.getElem_toArray, List.getElem_cons_zero, List.getElem_cons_succ]
  refine RG.wpL_stepw (i := 32) (by kernel_rfl) (by rfl) (by rfl) (fun KX hK => ?_)
  have HK := TW.hide hK
  clear hK
  go_simp
  refine HK.out _ _ HW3.out (fun _ => trivial) ?_
  clear HK KX
  try simp only [Act.put, List.setIfInBounds_toArray, List.set_cons_zero, List.set_cons_succ, List.getElem_toArray, List.getElem_cons_zero, List.getElem_cons_succ]
  refine RG.wpL_done (by kernel_rfl) ?_ _
  refine NoPanic.normal ?_
  refine HKr.out _ _ ?_
  have HR9 : Hid (Below B w W3) := NB.out.trans (HW3.out.mono (by have := blk_lt NV.out; omega))
  clear q1 q2
  go_wp2
  go_ret
  exact ⟨rfl, HR9.out⟩
end LW
end Go.Proofs.YtkgemkfajkcgcaaDoor
