/-
  What the calls awake (the laws) and MixbTables give.
-/
import Derived.Test.YtkilackhomhpgaaDoorTabs
import Derived.Test.YtkilackhomhpgaaDoorOrder
namespace Go.Proofs.YtkilackhomhpgaaDoor
open Go.RowKit
set_option linter.unusedVariables false
set_option linter.unusedSimpArgs false
namespace MX
open Turn
attribute [local go_sem ↓] Go.wp_at_zero Go.wp_at_succ
set_option maxRecDepth 100000 in
set_option maxHeartbeats 2000000 in
theorem awake (w : World) (hi : Tab w 0 .u64 ivL) (ht : Tab w 1 .u8 ordL) : Calls Tryd.prog 20 #[] w fun e w' => e = .returned (.bool true) ∧ Below w.heap.size w w' := by
  have h9 := iv w hi
  have h11 := fun X (h : Tab X 1 .u8 ordL) => sigma 1 X h
  have HI := TW.hide h9
  have HS := TW.hide h11
  have HT := TW.hide ht
  clear h9 h11 hi ht
  go_enter Tryd.func20, Tryd.ntmps20
  refine wp_seq_k fun K hK => ?_
  have HK := TW.hide hK
  clear hK
  go_wp2
  refine HK.out _ _ ?_
  clear HK K
  refine wp_seq_k fun KK hK => ?_
  have HK := TW.hide hK
  clear hK
  go_wp2_with fail
  refine (HI.out).mono ?_
  rintro e w1 ⟨rfl, hb1⟩
  have B1 := TW.hide hb1
  clear hb1
  go_wp2_with (first | (refine wpList_store_row (by rfl) 23 _ _ (by rfl) w1.heap.size (K .u64 ivL) (by rfl) (by rfl) 23 _ (heap_new w1 _) (by kernel_rfl) (by kernel_rfl) (K_one _ _) ?_))
  have n1 := setRow_heap _ _ _ (K .u64 ivL) _ _ (heap_new w1 (.cells #[.int .u64 0, .int .u64 0, .int .u64 0, .int .u64 0, .int .u64 0, .int .u64 0, .int .u64 0, .int .u64 0] 23))
  have bx1 := below_setRow (cs := (K .u64 ivL)) ((Below.refl w1.heap.size w1).alloc (Nat.le_refl _) (.cells #[.int .u64 0, .int .u64 0, .int .u64 0, .int .u64 0, .int .u64 0, .int .u64 0, .int .u64 0, .int .u64 0] 23)) (g := w1.heap.size) (Nat.le_refl _)
  generalize (w1.alloc (.cells #[.int .u64 0, .int .u64 0, .int .u64 0, .int .u64 0, .int .u64 0, .int .u64 0, .int .u64 0, .int .u64 0] 23)).setRow w1.heap.size (K .u64 ivL) = X1 at n1 bx1 ⊢
  refine HK.out _ _ ?_
  clear HK KK
  have BX1 : Hid (Below w.heap.size w X1) := below_row B1.out bx1 B1.out.size
  generalize hg1 : w1.heap.size = g1 at *
  have N1 := TW.hide n1
  clear n1 bx1 hg1 B1
  refine wp_seq_k fun KK hK => ?_
  have HK := TW.hide hK
  clear hK
  go_wp2_with fail
  refine (HS.out _ (HT.out.below BX1.out)).mono ?_
  rintro e w2 ⟨rfl, hb2⟩
  have N1' := TW.hide (blk_keep N1.out hb2)
  have B2 : Hid (Below w.heap.size w w2) := below_row BX1.out hb2 BX1.out.size
  have hor : ord ((1 : Int) % 10).toNat = ord 1 := rfl
  rw [hor]
  clear hb2 N1 BX1 hor
  go_wp2_with (first | (refine wpList_store_row (by rfl) 26 _ _ (by rfl) w2.heap.size (K .i64 (ord 1)) (by rfl) (by rfl) 26 _ (heap_new w2 _) (by kernel_rfl) (by kernel_rfl) (K_one _ _) ?_))
  have n2 := setRow_heap _ _ _ (K .i64 (ord 1)) _ _ (heap_new w2 (.cells #[.int .i64 0, .int .i64 0, .int .i64 0, .int .i64 0, .int .i64 0, .int .i64 0, .int .i64 0, .int .i64 0, .int .i64 0, .int .i64 0, .int .i64 0, .int .i64 0, .int .i64 0, .int .i64 0, .int .i64 0, .int .i64 0] 26))
  have bx2 := below_setRow (cs := (K .i64 (ord 1))) ((Below.refl w2.heap.size w2).alloc (Nat.le_refl _) (.cells #[.int .i64 0, .int .i64 0, .int .i64 0, .int .i64 0, .int .i64 0, .int .i64 0, .int .i64 0, .int .i64 0, .int .i64 0, .int .i64 0, .int .i64 0, .int .i64 0, .int .i64 0, .int .i64 0, .int .i64 0, .int .i64 0] 26)) (g := w2.heap.size) (Nat.le_refl _)
  generalize (w2.alloc (.cells #[.int .i64 0, .int .i64 0, .int .i64 0, .int .i64 0, .int .i64 0, .int .i64 0, .int .i64 0, .int .i64 0, .int .i64 0, .int .i64 0, .int .i64 0, .int .i64 0, .int .i64 0, .int .i64 0, .int .i64 0, .int .i64 0] 26)).setRow w2.heap.size (K .i64 (ord 1)) = X2 at n2 bx2 ⊢
  refine HK.out _ _ ?_
  clear HK KK
  have c0 := blk_cellK (blk_keep N1'.out bx2) (i := 0) (by decide)
  have c7 := blk_cellK (blk_keep N1'.out bx2) (i := 7) (by decide)
  have s0 := blk_cellK n2 (i := 0) (by decide)
  have s15 := blk_cellK n2 (i := 15) (by decide)
  have e0 : ivL.getD 0 0 = 7640891576956012808 := rfl
  have e7 : ivL.getD 7 0 = 6620516959819538809 := rfl
  have o0 : (ord 1).getD 0 0 = 14 := by decide
  have o15 : (ord 1).getD 15 0 = 3 := by decide
  rw [e0] at c0
  rw [e7] at c7
  rw [o0] at s0
  rw [o15] at s15
  have BX2 : Hid (Below w.heap.size w X2) := below_row B2.out bx2 B2.out.size
  clear n2 bx2 N1' B2 e0 e7 o0 o15
  go_wp2
  go_ret
  exact ⟨rfl, BX2.out⟩
set_option maxRecDepth 100000 in
set_option maxHeartbeats 4000000 in
theorem tablesWalk (n : Int) (w : World) (hi : Tab w 0 .u64 ivL) (ht : Tab w 1 .u8 ordL) : Calls Tryd.prog 3 #[.int .i64 n] w fun e w' => e = .returned (.bool true) ∧ Below w.heap.size w w' := by
  have h9 := iv w hi
  have h11 := fun X (h : Tab X 1 .u8 ordL) => sigma n X h
  have h10 := fun (i : Nat) X (h : i < 8) => riv i X h
  have h12 := fun (i : Nat) X (h : i < 16) => rsigma n i X h
  have hl := Int.emod_nonneg n (show (10 : Int) ≠ 0 by omega)
  have hu := Int.emod_lt_of_pos n (show (0 : Int) < 10 by omega)
  have hr10 : (n % 10).toNat < 10 := by omega
  generalize (n % 10).toNat = r at *
  have hlen := ord_length r hr10
  have HI := TW.hide h9
  have HS := TW.hide h11
  have HRI := TW.hide h10
  have HRS := TW.hide h12
  have HT := TW.hide ht
  have HL := TW.hide hlen
  clear h9 h11 h10 h12 hi ht hl hu hlen
  go_enter Tryd.func3, Tryd.ntmps3
  go_wp2_with fail
  refine HI.out.mono ?_
  rintro e w1 ⟨rfl, hb1⟩
  have B1 := TW.hide hb1
  clear hb1
  go_wp2_with (first | (refine wpList_store_row (by rfl) 23 _ _ (by rfl) w1.heap.size (K .u64 ivL) (by rfl) (by rfl) 23 _ (heap_new w1 _) (by kernel_rfl) (by kernel_rfl) (K_one _ _) ?_))
  have n1 := setRow_heap _ _ _ (K .u64 ivL) _ _ (heap_new w1 (.cells #[.int .u64 0, .int .u64 0, .int .u64 0, .int .u64 0, .int .u64 0, .int .u64 0, .int .u64 0, .int .u64 0] 23))
  have bx1 := below_setRow (cs := (K .u64 ivL)) ((Below.refl w1.heap.size w1).alloc (Nat.le_refl _) (.cells #[.int .u64 0, .int .u64 0, .int .u64 0, .int .u64 0, .int .u64 0, .int .u64 0, .int .u64 0, .int .u64 0] 23)) (g := w1.heap.size) (Nat.le_refl _)
  generalize (w1.alloc (.cells #[.int .u64 0, .int .u64 0, .int .u64 0, .int .u64 0, .int .u64 0, .int .u64 0, .int .u64 0, .int .u64 0] 23)).setRow w1.heap.size (K .u64 ivL) = X1 at n1 bx1 ⊢
  have BX1 : Hid (Below w.heap.size w X1) := below_row B1.out bx1 B1.out.size
  generalize hg1 : w1.heap.size = g1 at *
  have N1 := TW.hide n1
  clear n1 bx1 hg1 B1
  go_loopw [4] (fun i wr => ∃ k : Nat, k ≤ 8 ∧ i = .int .i64 k ∧ wr.heap[g1]? = some (.cells (K .u64 ivL) 23 (0, 0)) ∧ Below w.heap.size w wr) (fun i _ => 8 - (intOf i).toNat)
  case atStart => exact ⟨0, Nat.zero_le _, rfl, N1.out, BX1.out⟩
  case round =>
    obtain ⟨k, hk, rfl, n1, hb⟩ := hrel
    clear N1 BX1 X1 w1
    by_cases hlt : k < 8
    · have hc := fun (Z : World) (h : Z.heap[g1]? = some (.cells (K .u64 ivL) 23 (0, 0))) => blk_cellK h (i := k) hlt
      have hr := fun X => HRI.out k X hlt
      generalize ivL.getD k 0 = z at *
      have N1 := TW.hide n1
      have NB := TW.hide hb
      have HC := TW.hide hc
      have HR := TW.hide hr
      clear n1 hb hc hr
      have hk1 : (k : Int) < 8 := by omega
      have hz : (z != z) = false := by simp
      go_wp2
      refine wp_region_noPanic ?_
      refine RG.wp_region_L (fun Z => Z.cell? ⟨g1, k, none⟩ = some (.int .u64 z)) (fun _ => True) [] (by kernel_rfl) ?_
      refine RG.wpL_take (fuel := 2) (a' := ?A1) [0, 1, 2, 3] (by kernel_rfl) (by kernel_rfl) (fun _ _ _ _ _ h => h) trivial (fun _ => HC.out _ N1.out) ?r1 ?_
      case r1 =>
        iterate 2
          refine RG.RunsIf.weak (v := ?_) (by rfl) (by rfl) (fun Z hT => ?_) ?_
          rotate_left
          · go_simp
            rfl
          simp only [Act.put, List.setIfInBounds_toArray, List.set_cons_zero, List.set_cons_succ]
        iterate 1
          refine RG.RunsIf.strong (v := ?_) (by rfl) (by kernel_rfl) (by rfl) (fun Z hT hS => ?_) ?_
          rotate_left
          · go_simp
            rfl
          simp only [Act.put, List.setIfInBounds_toArray, List.set_cons_zero, List.set_cons_succ]
        iterate 1
          refine RG.RunsIf.weak (v := ?_) (by rfl) (by rfl) (fun Z hT => ?_) ?_
          rotate_left
          · go_simp
            rfl
          simp only [Act.put, List.setIfInBounds_toArray, List.set_cons_zero, List.set_cons_succ]
        exact RG.RunsIf.nil
      refine RG.wpL_step (i := 4) (by kernel_rfl) (by rfl) (by rfl) (fun K hK => ?_)
      have HK := TW.hide hK
      clear hK
      go_simp
      refine (HR.out _).mono ?_
      rintro e w2 ⟨rfl, hb2⟩
      have M1 := TW.hide (blk_keep (blk_drewN N1.out 1) hb2)
      have MB : Hid (Below w.heap.size w w2) := below_row (below_drewN NB.out 1) hb2 NB.out.size
      clear hb2
      refine HK.out _ _ trivial (fun _ => HC.out _ M1.out) ?_
      clear HK K
      refine RG.wpL_take (fuel := 0) (a' := ?A2) [5] (by kernel_rfl) (by kernel_rfl) (fun _ _ _ _ _ h => h) trivial (fun _ => HC.out _ M1.out) ?r2 ?_
      case r2 =>
        iterate 1
          refine RG.RunsIf.weak (v := ?_) (by rfl) (by rfl) (fun Z hT => ?_) ?_
          rotate_left
          · go_simp
            rfl
          simp only [Act.put, List.setIfInBounds_toArray, List.set_cons_zero, List.set_cons_succ]
        exact RG.RunsIf.nil
      refine RG.wpL_done (by kernel_rfl) ?_ _
      refine NoPanic.normal ?_
      go_wp2
      go_roundw
      case rel => exact ⟨k + 1, by omega, by go_num, M1.out, MB.out⟩
      case measure => simp [intOf]; omega
    · have NB := TW.hide hb
      clear n1 hb
      go_wp2_with fail
      refine (HS.out _ (HT.out.below NB.out)).mono ?_
      rintro e w2 ⟨rfl, hb2⟩
      have B2 : Hid (Below w.heap.size w w2) := below_row NB.out hb2 NB.out.size
      have hi26 : (Tryd.prog.info? 26).map (·.size) = some (K .i64 (ord r)).size := by rw [K_size, HL.out]; kernel_rfl
      have HI26 := TW.hide hi26
      have HO : Hid ((K .i64 (List.replicate 16 0)).size = (K .i64 (ord r)).size) := by show _ = _; rw [K_size, K_size, HL.out]; rfl
      clear hb2 NB hi26
      go_wp2_with (first | (refine wpList_store_row (by rfl) 26 _ _ (by rfl) w2.heap.size (K .i64 (ord r)) (by rfl) (by rfl) 26 _ (heap_new w2 _) HI26.out HO.out (K_one _ _) ?_))
      have n2 := setRow_heap _ _ _ (K .i64 (ord r)) _ _ (heap_new w2 (.cells #[.int .i64 0, .int .i64 0, .int .i64 0, .int .i64 0, .int .i64 0, .int .i64 0, .int .i64 0, .int .i64 0, .int .i64 0, .int .i64 0, .int .i64 0, .int .i64 0, .int .i64 0, .int .i64 0, .int .i64 0, .int .i64 0] 26))
      have bx2 := below_setRow (cs := (K .i64 (ord r))) ((Below.refl w2.heap.size w2).alloc (Nat.le_refl _) (.cells #[.int .i64 0, .int .i64 0, .int .i64 0, .int .i64 0, .int .i64 0, .int .i64 0, .int .i64 0, .int .i64 0, .int .i64 0, .int .i64 0, .int .i64 0, .int .i64 0, .int .i64 0, .int .i64 0, .int .i64 0, .int .i64 0] 26)) (g := w2.heap.size) (Nat.le_refl _)
      generalize (w2.alloc (.cells #[.int .i64 0, .int .i64 0, .int .i64 0, .int .i64 0, .int .i64 0, .int .i64 0, .int .i64 0, .int .i64 0, .int .i64 0, .int .i64 0, .int .i64 0, .int .i64 0, .int .i64 0, .int .i64 0, .int .i64 0, .int .i64 0] 26)).setRow w2.heap.size (K .i64 (ord r)) = X2 at n2 bx2 ⊢
      have BX2 : Hid (Below w.heap.size w X2) := below_row B2.out bx2 B2.out.size
      generalize hg2 : w2.heap.size = g2 at *
      have N2 := TW.hide n2
      clear n2 bx2 hg2 B2 HO HI26
      go_loopw [6] (fun i wr => ∃ k : Nat, k ≤ 16 ∧ i = .int .i64 k ∧ wr.heap[g2]? = some (.cells (K .i64 (ord r)) 26 (0, 0)) ∧ Below w.heap.size w wr) (fun i _ => 16 - (intOf i).toNat)
      case atStart => exact ⟨0, Nat.zero_le _, rfl, N2.out, BX2.out⟩
      case round =>
        obtain ⟨j, hj, rfl, n2, hb⟩ := hrel
        clear N2 BX2 X2 w2
        by_cases hlt2 : j < 16
        · have hc := fun (Z : World) (h : Z.heap[g2]? = some (.cells (K .i64 (ord r)) 26 (0, 0))) => blk_cellK h (i := j) (by rw [HL.out]; exact hlt2)
          have hr := fun X => HRS.out j X hlt2
          generalize (ord r).getD j 0 = z at *
          have N2 := TW.hide n2
          have NB := TW.hide hb
          have HC := TW.hide hc
          have HR := TW.hide hr
          clear n2 hb hc hr
          have hk1 : (j : Int) < 16 := by omega
          have hz : (z != z) = false := by simp
          go_wp2
          refine wp_region_noPanic ?_
          refine RG.wp_region_L (fun Z => Z.cell? ⟨g2, j, none⟩ = some (.int .i64 z)) (fun _ => True) [] (by kernel_rfl) ?_
          refine RG.wpL_take (fuel := 2) (a' := ?A3) [0, 1, 2, 3, 4] (by kernel_rfl) (by kernel_rfl) (fun _ _ _ _ _ h => h) trivial (fun _ => HC.out _ N2.out) ?r3 ?_
          case r3 =>
            iterate 2
              refine RG.RunsIf.weak (v := ?_) (by rfl) (by rfl) (fun Z hT => ?_) ?_
              rotate_left
              · go_simp
                rfl
              simp only [Act.put, List.setIfInBounds_toArray, List.set_cons_zero, List.set_cons_succ]
            iterate 1
              refine RG.RunsIf.strong (v := ?_) (by rfl) (by kernel_rfl) (by rfl) (fun Z hT hS => ?_) ?_
              rotate_left
              · go_simp
                rfl
              simp only [Act.put, List.setIfInBounds_toArray, List.set_cons_zero, List.set_cons_succ]
            iterate 2
              refine RG.RunsIf.weak (v := ?_) (by rfl) (by rfl) (fun Z hT => ?_) ?_
              rotate_left
              · go_simp
                rfl
              simp only [Act.put, List.setIfInBounds_toArray, List.set_cons_zero, List.set_cons_succ]
            exact RG.RunsIf.nil
          refine RG.wpL_step (i := 5) (by kernel_rfl) (by rfl) (by rfl) (fun K hK => ?_)
          have HK := TW.hide hK
          clear hK
          go_simp
          refine (HR.out _).mono ?_
          rintro e w3 ⟨rfl, rfl⟩
          refine HK.out _ _ trivial (fun _ => HC.out _ N2.out) ?_
          clear HK K
          refine RG.wpL_take (fuel := 0) (a' := ?A4) [6] (by kernel_rfl) (by kernel_rfl) (fun _ _ _ _ _ h => h) trivial (fun _ => HC.out _ N2.out) ?r4 ?_
          case r4 =>
            iterate 1
              refine RG.RunsIf.weak (v := ?_) (by rfl) (by rfl) (fun Z hT => ?_) ?_
              rotate_left
              · go_simp
                rfl
              simp only [Act.put, List.setIfInBounds_toArray, List.set_cons_zero, List.set_cons_succ]
            exact RG.RunsIf.nil
          refine RG.wpL_done (by kernel_rfl) ?_ _
          refine NoPanic.normal ?_
          go_wp2
          go_roundw
          case rel => exact ⟨j + 1, by omega, by go_num, N2.out, below_drewN NB.out 1⟩
          case measure => simp [intOf]; omega
        · have NB := TW.hide hb
          clear n2 hb
          go_wp2
          go_ret
          exact ⟨rfl, NB.out⟩
end MX
end Go.Proofs.YtkilackhomhpgaaDoor
