/-
  What the call Same (the program) gives.
-/
import Derived.Test.YtpcahieaakjaaaaPars
namespace Go.Proofs.Ytpcahieaakjaaaa
open Go.RowKit
set_option linter.unusedVariables false
set_option linter.unusedSimpArgs false
namespace LW
open Words
attribute [local go_sem ↓] Go.wp_at_zero Go.wp_at_succ
set_option maxRecDepth 100000 in
set_option maxHeartbeats 4000000 in
theorem sameE1 (kd : Int) (p q : Pm) (sa ta sa' ta' : Option Addr) (sc tc sc' tc' : Nat) (s t s' t' : List Int) (w : World) (E1 : Int) (hE : (E1 != 0) = true) (H1 : Hid (∀ W : World, Calls Try.prog 9 #[.int .i64 kd, .agg (pcP p (.slice sa s.length sc) (.slice ta t.length tc))] W fun e w' => e = .returned (.int .i64 E1) ∧ Below W.heap.size W w')) :
    Calls Try.prog 15 #[.int .i64 kd, .agg (pcP p (.slice sa s.length sc) (.slice ta t.length tc)), .agg (pcP q (.slice sa' s'.length sc') (.slice ta' t'.length tc'))] w fun e w' => e = .returned (.tuple #[.bool false, .int .i64 E1]) ∧ Below w.heap.size w w' := by
  have hb := (((Below.refl w.heap.size w).alloc (Nat.le_refl _) (.cells (pcP p (.slice sa s.length sc) (.slice ta t.length tc)) 26)).alloc (by simp; try omega) (.cells (pcP q (.slice sa' s'.length sc') (.slice ta' t'.length tc')) 26))
  have n0 := (blk_alloc (o' := .cells (pcP q (.slice sa' s'.length sc') (.slice ta' t'.length tc')) 26) (heap_new w (.cells (pcP p (.slice sa s.length sc) (.slice ta t.length tc)) 26)))
  have n1 := (heap_new (w.alloc (.cells (pcP p (.slice sa s.length sc) (.slice ta t.length tc)) 26)) (.cells (pcP q (.slice sa' s'.length sc') (.slice ta' t'.length tc')) 26))
  rw [show (w.alloc (.cells (pcP p (.slice sa s.length sc) (.slice ta t.length tc)) 26)).heap.size = w.heap.size + 1 by simp] at n1
  go_enter Try.func15, Try.ntmps15
  refine wp_seq_k fun K hK => ?_
  have HK := TW.hide hK
  clear hK
  go_wp2
  refine HK.out _ _ ?_
  clear HK K
  change Code.wp _ _ _ _ ((w.alloc (.cells (pcP p (.slice sa s.length sc) (.slice ta t.length tc)) 26)).alloc (.cells (pcP q (.slice sa' s'.length sc') (.slice ta' t'.length tc')) 26))
  generalize hWW : (w.alloc (.cells (pcP p (.slice sa s.length sc) (.slice ta t.length tc)) 26)).alloc (.cells (pcP q (.slice sa' s'.length sc') (.slice ta' t'.length tc')) 26) = W at hb n0 n1 ⊢
  have hW : W.heap.size = w.heap.size + 1 + 1 := by rw [← hWW]; simp
  clear hWW
  generalize hB : w.heap.size = B at *
  have N0 := TW.hide n0
  have N1 := TW.hide n1
  have NB := TW.hide hb
  clear n0 n1 hb
  clear hW
  refine wp_seq_k fun KK hK => ?_
  have HK := TW.hide hK
  clear hK
  go_wp2_with (refine wpList_load_row (by rfl) 26 _ (by rfl) (B) (by rfl) 26 (pcP p (.slice sa s.length sc) (.slice ta t.length tc)) (0, 0) _ N0.out Try.underlying26 rfl (info31 _ _ _) ?_)
  refine (H1.out W).mono ?_
  rintro e w1 ⟨rfl, hb1⟩
  have N0' := TW.hide (blk_keep N0.out hb1)
  have N1' := TW.hide (blk_keep N1.out hb1)
  have NB' : Hid (Below B w w1) := below_row NB.out hb1 (by have := blk_lt N1.out; omega)
  clear hb1 N0 N1 NB
  have N0 := N0'
  have N1 := N1'
  have NB := NB'
  clear N0' N1' NB'
  go_wp2
  go_ret2
  exact ⟨rfl, NB.out⟩
set_option maxRecDepth 100000 in
set_option maxHeartbeats 4000000 in
theorem sameE2 (kd : Int) (p q : Pm) (sa ta sa' ta' : Option Addr) (sc tc sc' tc' : Nat) (s t s' t' : List Int) (w : World) (E2 : Int) (hE : (E2 != 0) = true) (H1 : Hid (∀ W : World, Calls Try.prog 9 #[.int .i64 kd, .agg (pcP p (.slice sa s.length sc) (.slice ta t.length tc))] W fun e w' => e = .returned (.int .i64 0) ∧ Below W.heap.size W w')) (H2 : Hid (∀ W : World, Calls Try.prog 9 #[.int .i64 kd, .agg (pcP q (.slice sa' s'.length sc') (.slice ta' t'.length tc'))] W fun e w' => e = .returned (.int .i64 E2) ∧ Below W.heap.size W w')) :
    Calls Try.prog 15 #[.int .i64 kd, .agg (pcP p (.slice sa s.length sc) (.slice ta t.length tc)), .agg (pcP q (.slice sa' s'.length sc') (.slice ta' t'.length tc'))] w fun e w' => e = .returned (.tuple #[.bool false, .int .i64 E2]) ∧ Below w.heap.size w w' := by
  have hb := (((Below.refl w.heap.size w).alloc (Nat.le_refl _) (.cells (pcP p (.slice sa s.length sc) (.slice ta t.length tc)) 26)).alloc (by simp; try omega) (.cells (pcP q (.slice sa' s'.length sc') (.slice ta' t'.length tc')) 26))
  have n0 := (blk_alloc (o' := .cells (pcP q (.slice sa' s'.length sc') (.slice ta' t'.length tc')) 26) (heap_new w (.cells (pcP p (.slice sa s.length sc) (.slice ta t.length tc)) 26)))
  have n1 := (heap_new (w.alloc (.cells (pcP p (.slice sa s.length sc) (.slice ta t.length tc)) 26)) (.cells (pcP q (.slice sa' s'.length sc') (.slice ta' t'.length tc')) 26))
  rw [show (w.alloc (.cells (pcP p (.slice sa s.length sc) (.slice ta t.length tc)) 26)).heap.size = w.heap.size + 1 by simp] at n1
  go_enter Try.func15, Try.ntmps15
  refine wp_seq_k fun K hK => ?_
  have HK := TW.hide hK
  clear hK
  go_wp2
  refine HK.out _ _ ?_
  clear HK K
  change Code.wp _ _ _ _ ((w.alloc (.cells (pcP p (.slice sa s.length sc) (.slice ta t.length tc)) 26)).alloc (.cells (pcP q (.slice sa' s'.length sc') (.slice ta' t'.length tc')) 26))
  generalize hWW : (w.alloc (.cells (pcP p (.slice sa s.length sc) (.slice ta t.length tc)) 26)).alloc (.cells (pcP q (.slice sa' s'.length sc') (.slice ta' t'.length tc')) 26) = W at hb n0 n1 ⊢
  have hW : W.heap.size = w.heap.size + 1 + 1 := by rw [← hWW]; simp
  clear hWW
  generalize hB : w.heap.size = B at *
  have N0 := TW.hide n0
  have N1 := TW.hide n1
  have NB := TW.hide hb
  clear n0 n1 hb
  clear hW
  have h00 : ((0 : Int) != 0) = false := rfl
  refine wp_seq_k fun KK hK => ?_
  have HK := TW.hide hK
  clear hK
  go_wp2_with (refine wpList_load_row (by rfl) 26 _ (by rfl) (B) (by rfl) 26 (pcP p (.slice sa s.length sc) (.slice ta t.length tc)) (0, 0) _ N0.out Try.underlying26 rfl (info31 _ _ _) ?_)
  refine (H1.out W).mono ?_
  rintro e w1 ⟨rfl, hb1⟩
  have N0' := TW.hide (blk_keep N0.out hb1)
  have N1' := TW.hide (blk_keep N1.out hb1)
  have NB' : Hid (Below B w w1) := below_row NB.out hb1 (by have := blk_lt N1.out; omega)
  clear hb1 N0 N1 NB
  have N0 := N0'
  have N1 := N1'
  have NB := NB'
  clear N0' N1' NB'
  go_wp2
  refine HK.out _ _ ?_
  clear HK KK
  refine wp_seq_k fun KK hK => ?_
  have HK := TW.hide hK
  clear hK
  go_wp2_with (refine wpList_load_row (by rfl) 26 _ (by rfl) (B + 1) (by rfl) 26 (pcP q (.slice sa' s'.length sc') (.slice ta' t'.length tc')) (0, 0) _ N1.out Try.underlying26 rfl (info31 _ _ _) ?_)
  refine (H2.out w1).mono ?_
  rintro e w2 ⟨rfl, hb2⟩
  have N0' := TW.hide (blk_keep N0.out hb2)
  have N1' := TW.hide (blk_keep N1.out hb2)
  have NB' : Hid (Below B w w2) := below_row NB.out hb2 (by have := blk_lt N1.out; omega)
  clear hb2 N0 N1 NB
  have N0 := N0'
  have N1 := N1'
  have NB := NB'
  clear N0' N1' NB'
  go_wp2
  go_ret2
  exact ⟨rfl, NB.out⟩
set_option maxRecDepth 100000 in
set_option maxHeartbeats 8000000 in
theorem sameOk (kd : Int) (p q : Pm) (sa ta sa' ta' : Option Addr) (sc tc sc' tc' : Nat) (s t s' t' : List Int) (w : World) (y : Bool) (H1 : Hid (∀ W : World, Calls Try.prog 9 #[.int .i64 kd, .agg (pcP p (.slice sa s.length sc) (.slice ta t.length tc))] W fun e w' => e = .returned (.int .i64 0) ∧ Below W.heap.size W w')) (H2 : Hid (∀ W : World, Calls Try.prog 9 #[.int .i64 kd, .agg (pcP q (.slice sa' s'.length sc') (.slice ta' t'.length tc'))] W fun e w' => e = .returned (.int .i64 0) ∧ Below W.heap.size W w'))
    (H3 : Hid (∀ (j : Int) (W : World), 1 ≤ j → j ≤ 9 → Calls Try.prog 38 #[.agg (pcP p (.slice sa s.length sc) (.slice ta t.length tc)), .int .i64 j] W fun e w' => e = .returned (.int .u64 (p.nv j)) ∧ Below W.heap.size W w'))
    (H4 : Hid (∀ (j : Int) (W : World), 1 ≤ j → j ≤ 9 → Calls Try.prog 38 #[.agg (pcP q (.slice sa' s'.length sc') (.slice ta' t'.length tc')), .int .i64 j] W fun e w' => e = .returned (.int .u64 (q.nv j)) ∧ Below W.heap.size W w'))
    (H5 : Hid (∀ W, Below w.heap.size w W → Calls Try.prog 35 #[.slice sa s.length sc] W fun e w' => e = .returned (.slice sa (tr s).length sc) ∧ ∃ q, w' = W.drewN q))
    (H6 : Hid (∀ W, Below w.heap.size w W → Calls Try.prog 35 #[.slice sa' s'.length sc'] W fun e w' => e = .returned (.slice sa' (tr s').length sc') ∧ ∃ q, w' = W.drewN q))
    (H7 : Hid (∀ W, Below w.heap.size w W → Calls Try.prog 39 #[.slice sa (tr s).length sc, .slice sa' (tr s').length sc'] W fun e w' => e = .returned (.bool (decide (tr s = tr s'))) ∧ W = w'))
    (H8 : Hid (∀ W, Below w.heap.size w W → Calls Try.prog 35 #[.slice ta t.length tc] W fun e w' => e = .returned (.slice ta (tr t).length tc) ∧ ∃ q, w' = W.drewN q))
    (H9 : Hid (∀ W, Below w.heap.size w W → Calls Try.prog 35 #[.slice ta' t'.length tc'] W fun e w' => e = .returned (.slice ta' (tr t').length tc') ∧ ∃ q, w' = W.drewN q))
    (H10 : Hid (∀ W, Below w.heap.size w W → Calls Try.prog 39 #[.slice ta (tr t).length tc, .slice ta' (tr t').length tc'] W fun e w' => e = .returned (.bool (decide (tr t = tr t'))) ∧ W = w'))
    (hy1 : ∀ j : Int, 1 ≤ j → j ≤ 9 → p.nv j ≠ q.nv j → y = false) (hy2 : (∀ j : Int, 1 ≤ j → j ≤ 9 → p.nv j = q.nv j) → y = (decide (tr s = tr s') && decide (tr t = tr t'))) :
    Calls Try.prog 15 #[.int .i64 kd, .agg (pcP p (.slice sa s.length sc) (.slice ta t.length tc)), .agg (pcP q (.slice sa' s'.length sc') (.slice ta' t'.length tc'))] w fun e w' => e = .returned (.tuple #[.bool y, .int .i64 0]) ∧ Below w.heap.size w w' := by
  have HY1 := TW.hide hy1
  have HY2 := TW.hide hy2
  clear hy1 hy2
  have hb := (((Below.refl w.heap.size w).alloc (Nat.le_refl _) (.cells (pcP p (.slice sa s.length sc) (.slice ta t.length tc)) 26)).alloc (by simp; try omega) (.cells (pcP q (.slice sa' s'.length sc') (.slice ta' t'.length tc')) 26))
  have n0 := (blk_alloc (o' := .cells (pcP q (.slice sa' s'.length sc') (.slice ta' t'.length tc')) 26) (heap_new w (.cells (pcP p (.slice sa s.length sc) (.slice ta t.length tc)) 26)))
  have n1 := (heap_new (w.alloc (.cells (pcP p (.slice sa s.length sc) (.slice ta t.length tc)) 26)) (.cells (pcP q (.slice sa' s'.length sc') (.slice ta' t'.length tc')) 26))
  rw [show (w.alloc (.cells (pcP p (.slice sa s.length sc) (.slice ta t.length tc)) 26)).heap.size = w.heap.size + 1 by simp] at n1
  go_enter Try.func15, Try.ntmps15
  refine wp_seq_k fun K hK => ?_
  have HK := TW.hide hK
  clear hK
  go_wp2
  refine HK.out _ _ ?_
  clear HK K
  change Code.wp _ _ _ _ ((w.alloc (.cells (pcP p (.slice sa s.length sc) (.slice ta t.length tc)) 26)).alloc (.cells (pcP q (.slice sa' s'.length sc') (.slice ta' t'.length tc')) 26))
  generalize hWW : (w.alloc (.cells (pcP p (.slice sa s.length sc) (.slice ta t.length tc)) 26)).alloc (.cells (pcP q (.slice sa' s'.length sc') (.slice ta' t'.length tc')) 26) = W at hb n0 n1 ⊢
  have hW : W.heap.size = w.heap.size + 1 + 1 := by rw [← hWW]; simp
  clear hWW
  generalize hB : w.heap.size = B at *
  have N0 := TW.hide n0
  have N1 := TW.hide n1
  have NB := TW.hide hb
  clear n0 n1 hb
  clear hW
  have h00 : ((0 : Int) != 0) = false := rfl
  refine wp_seq_k fun KK hK => ?_
  have HK := TW.hide hK
  clear hK
  go_wp2_with (refine wpList_load_row (by rfl) 26 _ (by rfl) (B) (by rfl) 26 (pcP p (.slice sa s.length sc) (.slice ta t.length tc)) (0, 0) _ N0.out Try.underlying26 rfl (info31 _ _ _) ?_)
  refine (H1.out W).mono ?_
  rintro e w1 ⟨rfl, hb1⟩
  have N0' := TW.hide (blk_keep N0.out hb1)
  have N1' := TW.hide (blk_keep N1.out hb1)
  have NB' : Hid (Below B w w1) := below_row NB.out hb1 (by have := blk_lt N1.out; omega)
  clear hb1 N0 N1 NB
  have N0 := N0'
  have N1 := N1'
  have NB := NB'
  clear N0' N1' NB'
  go_wp2
  refine HK.out _ _ ?_
  clear HK KK
  refine wp_seq_k fun KK hK => ?_
  have HK := TW.hide hK
  clear hK
  go_wp2_with (refine wpList_load_row (by rfl) 26 _ (by rfl) (B + 1) (by rfl) 26 (pcP q (.slice sa' s'.length sc') (.slice ta' t'.length tc')) (0, 0) _ N1.out Try.underlying26 rfl (info31 _ _ _) ?_)
  refine (H2.out w1).mono ?_
  rintro e w2 ⟨rfl, hb2⟩
  have N0' := TW.hide (blk_keep N0.out hb2)
  have N1' := TW.hide (blk_keep N1.out hb2)
  have NB' : Hid (Below B w w2) := below_row NB.out hb2 (by have := blk_lt N1.out; omega)
  clear hb2 N0 N1 NB
  have N0 := N0'
  have N1 := N1'
  have NB := NB'
  clear N0' N1' NB'
  go_wp2
  refine HK.out _ _ ?_
  clear HK KK
  clear H1 H2 h00
  have HT0 : Hid (w2.heap[B]? = some (.cells (pcP p (.slice sa s.length sc) (.slice ta t.length tc)) 26 (0, 0)) ∧ w2.heap[B + 1]? = some (.cells (pcP q (.slice sa' s'.length sc') (.slice ta' t'.length tc')) 26 (0, 0)) ∧ Below B w w2) := ⟨N0.out, N1.out, NB.out⟩
  clear N0 N1 NB
  go_wp2
  go_loopw [10] (fun i wr => ∃ k : Nat, 1 ≤ k ∧ k ≤ 10 ∧ i = .int .i64 k ∧ (∀ j : Int, 1 ≤ j → j < k → p.nv j = q.nv j) ∧ wr.heap[B]? = some (.cells (pcP p (.slice sa s.length sc) (.slice ta t.length tc)) 26 (0, 0)) ∧ wr.heap[B + 1]? = some (.cells (pcP q (.slice sa' s'.length sc') (.slice ta' t'.length tc')) 26 (0, 0)) ∧ Below B w wr) (fun i _ => 10 - (intOf i).toNat)
  case atStart => exact ⟨1, Nat.le_refl _, by omega, rfl, fun j h1 h2 => by omega, HT0.out⟩
  case round =>
    rename_i Q1 K1 a1
    obtain ⟨k, hk1, hk, rfl, heq, hT⟩ := hrel
    clear HT0
    by_cases hlt : k < 10
    · have c1 := fun W => H3.out k W (by omega) (by omega)
      have c2 := fun W => H4.out k W (by omega) (by omega)
      have hne := fun h => HY1.out k (by omega) (by omega) h
      have hnx : p.nv k = q.nv k → ∀ j : Int, 1 ≤ j → j < (k + 1 : Nat) → p.nv j = q.nv j := fun h j h1 h2 => by
        rcases Int.lt_or_le j k with h' | h'
        · exact heq j h1 h'
        · obtain rfl : j = k := by omega
          exact h
      have C1 := TW.hide c1
      have C2 := TW.hide c2
      have HNE := TW.hide hne
      have HNX := TW.hide hnx
      have HT0 : Hid (wr.drew.heap[B]? = some (.cells (pcP p (.slice sa s.length sc) (.slice ta t.length tc)) 26 (0, 0)) ∧ wr.drew.heap[B + 1]? = some (.cells (pcP q (.slice sa' s'.length sc') (.slice ta' t'.length tc')) 26 (0, 0)) ∧ Below B w wr.drew) := ⟨hT.1, hT.2.1, below_drewN hT.2.2 1⟩
      clear c1 c2 hne hnx heq hT
      generalize p.nv k = f1 at *
      generalize q.nv k = f2 at *
      have k9 : (k : Int) ≤ 9 := by omega
      go_wp2
      refine wp_region_noPanic ?_
      refine RG.wp_region_L (fun Z => True) (fun Z => Z.heap[B]? = some (.cells (pcP p (.slice sa s.length sc) (.slice ta t.length tc)) 26 (0, 0)) ∧ Z.heap[B + 1]? = some (.cells (pcP q (.slice sa' s'.length sc') (.slice ta' t'.length tc')) 26 (0, 0)) ∧ Below B w Z) [] (by kernel_rfl) ?_
      generalize wr.drew = Y0 at *
      refine RG.wpL_take (fuel := 3) (a' := ?A) [0, 1, 3, 4] (by kernel_rfl) (by kernel_rfl) (fun _ _ _ _ _ h => h) HT0.out (fun _ => trivial) ?r ?_
      case r =>
        refine RG.RunsIf.weak (by rfl) (by rfl) (fun Z hT => exec_load_row 26 _ (by rfl) (B) (by rfl) 26 (pcP p (.slice sa s.length sc) (.slice ta t.length tc)) (0, 0) _ hT.1 Try.underlying26 rfl (info31 _ _ _)) ?_
        simp only [Act.put, List.setIfInBounds_toArray, List.set_cons_zero, List.set_cons_succ, List.getElem_toArray, List.getElem_cons_zero, List.getElem_cons_succ]
        refine RG.RunsIf.weak (v := ?_) (by rfl) (by rfl) (fun Z hT => ?_) ?_
        rotate_left
        · skip
          go_simp
          rfl
        simp only [Act.put, List.setIfInBounds_toArray, List.set_cons_zero, List.set_cons_succ, List.getElem_toArray, List.getElem_cons_zero, List.getElem_cons_succ]
        refine RG.RunsIf.weak (by rfl) (by rfl) (fun Z hT => exec_load_row 26 _ (by rfl) (B + 1) (by rfl) 26 (pcP q (.slice sa' s'.length sc') (.slice ta' t'.length tc')) (0, 0) _ hT.2.1 Try.underlying26 rfl (info31 _ _ _)) ?_
        simp only [Act.put, List.setIfInBounds_toArray, List.set_cons_zero, List.set_cons_succ, List.getElem_toArray, List.getElem_cons_zero, List.getElem_cons_succ]
        refine RG.RunsIf.weak (v := ?_) (by rfl) (by rfl) (fun Z hT => ?_) ?_
        rotate_left
        · skip
          go_simp
          rfl
        simp only [Act.put, List.setIfInBounds_toArray, List.set_cons_zero, List.set_cons_succ, List.getElem_toArray, List.getElem_cons_zero, List.getElem_cons_succ]
        exact RG.RunsIf.nil
      refine RG.wpL_step (i := 2) (by kernel_rfl) (by rfl) (by rfl) (fun K hK => ?_)
      have HK := TW.hide hK
      clear hK
      go_simp
      refine (C1.out Y0).mono ?_
      rintro e v1 ⟨rfl, hc1⟩
      have HT1 : Hid (v1.heap[B]? = some (.cells (pcP p (.slice sa s.length sc) (.slice ta t.length tc)) 26 (0, 0)) ∧ v1.heap[B + 1]? = some (.cells (pcP q (.slice sa' s'.length sc') (.slice ta' t'.length tc')) 26 (0, 0)) ∧ Below B w v1) := ⟨blk_keep HT0.out.1 hc1, blk_keep HT0.out.2.1 hc1, below_row HT0.out.2.2 hc1 (by have := blk_lt HT0.out.2.1; omega)⟩
      refine HK.out _ _ HT1.out (fun _ => trivial) ?_
      clear HK K hc1 HT0
      refine RG.wpL_step (i := 5) (by kernel_rfl) (by rfl) (by rfl) (fun K hK => ?_)
      have HK := TW.hide hK
      clear hK
      go_simp
      refine (C2.out v1).mono ?_
      rintro e v2 ⟨rfl, hc2⟩
      have HT2 : Hid (v2.heap[B]? = some (.cells (pcP p (.slice sa s.length sc) (.slice ta t.length tc)) 26 (0, 0)) ∧ v2.heap[B + 1]? = some (.cells (pcP q (.slice sa' s'.length sc') (.slice ta' t'.length tc')) 26 (0, 0)) ∧ Below B w v2) := ⟨blk_keep HT1.out.1 hc2, blk_keep HT1.out.2.1 hc2, below_row HT1.out.2.2 hc2 (by have := blk_lt HT1.out.2.1; omega)⟩
      refine HK.out _ _ HT2.out (fun _ => trivial) ?_
      clear HK K hc2 HT1
      refine RG.wpL_step (i := 6) (by kernel_rfl) (by rfl) (by rfl) (fun K hK => ?_)
      have HK := TW.hide hK
      clear hK
      go_simp
      refine HK.out _ _ HT2.out (fun _ => trivial) ?_
      clear HK K
      refine RG.wpL_done (by kernel_rfl) ?_ _
      refine NoPanic.normal ?_
      by_cases hf : f1 = f2
      · have hff : (f1 != f2) = false := by simp [hf]
        go_wp2
        (first | (go_roundw; case' rel => skip) | (refine ⟨?_, ?measure⟩; (repeat apply Exists.intro); refine ⟨?rel, rfl⟩))
        case rel => exact ⟨k + 1, by omega, by omega, by go_num, HNX.out hf, HT2.out⟩
        case measure => simp [intOf]; omega
      · have hff : (f1 != f2) = true := by simp [hf]
        go_wp2
        have hyf := HNE.out hf
        subst hyf
        go_ret2
        exact ⟨rfl, HT2.out.2.2⟩
    · obtain rfl : k = 10 := by omega
      have HA := TW.hide a1
      have HYY := TW.hide (HY2.out (fun j h1 h2 => heq j h1 (by omega)))
      clear a1 H3 H4 HY1 HY2 heq
      have HT0 : Hid (wr.heap[B]? = some (.cells (pcP p (.slice sa s.length sc) (.slice ta t.length tc)) 26 (0, 0)) ∧ wr.heap[B + 1]? = some (.cells (pcP q (.slice sa' s'.length sc') (.slice ta' t'.length tc')) 26 (0, 0)) ∧ Below B w wr) := hT
      clear hT
      go_wp2
      refine HA.out _ _ ?_
      clear HA
      generalize decide (tr s = tr s') = y1 at *
      generalize decide (tr t = tr t') = y2 at *
      refine wp_seq ?_
      refine wp_region_noPanic ?_
      refine RG.wp_region_L (fun Z => True) (fun Z => Z.heap[B]? = some (.cells (pcP p (.slice sa s.length sc) (.slice ta t.length tc)) 26 (0, 0)) ∧ Z.heap[B + 1]? = some (.cells (pcP q (.slice sa' s'.length sc') (.slice ta' t'.length tc')) 26 (0, 0)) ∧ Below B w Z) [] (by kernel_rfl) ?_
      have HT1 : Hid (wr.drew.heap[B]? = some (.cells (pcP p (.slice sa s.length sc) (.slice ta t.length tc)) 26 (0, 0)) ∧ wr.drew.heap[B + 1]? = some (.cells (pcP q (.slice sa' s'.length sc') (.slice ta' t'.length tc')) 26 (0, 0)) ∧ Below B w wr.drew) := ⟨HT0.out.1, HT0.out.2.1, below_drewN HT0.out.2.2 1⟩
      clear HT0
      generalize wr.drew = Y1 at *
      refine RG.wpL_take (fuel := 13) (a' := ?A2) [0, 1, 3, 4] (by kernel_rfl) (by kernel_rfl) (fun _ _ _ _ _ h => h) HT1.out (fun _ => trivial) ?r2 ?_
      case r2 =>
        refine RG.RunsIf.weak (v := ?_) (by rfl) (by rfl) (fun Z hT => ?_) ?_
        rotate_left
        · skip
          go_simp
          rfl
        simp only [Act.put, List.setIfInBounds_toArray, List.set_cons_zero, List.set_cons_succ, List.getElem_toArray, List.getElem_cons_zero, List.getElem_cons_succ]
        refine RG.RunsIf.weak (v := ?_) (by rfl) (by rfl) (fun Z hT => ?_) ?_
        rotate_left
        · have c := blk_cell hT.1 (i := 9) (v := .slice sa s.length sc) rfl
          go_simp
          rfl
        simp only [Act.put, List.setIfInBounds_toArray, List.set_cons_zero, List.set_cons_succ, List.getElem_toArray, List.getElem_cons_zero, List.getElem_cons_succ]
        refine RG.RunsIf.weak (v := ?_) (by rfl) (by rfl) (fun Z hT => ?_) ?_
        rotate_left
        · skip
          go_simp
          rfl
        simp only [Act.put, List.setIfInBounds_toArray, List.set_cons_zero, List.set_cons_succ, List.getElem_toArray, List.getElem_cons_zero, List.getElem_cons_succ]
        refine RG.RunsIf.weak (v := ?_) (by rfl) (by rfl) (fun Z hT => ?_) ?_
        rotate_left
        · have c := blk_cell hT.2.1 (i := 9) (v := .slice sa' s'.length sc') rfl
          go_simp
          rfl
        simp only [Act.put, List.setIfInBounds_toArray, List.set_cons_zero, List.set_cons_succ, List.getElem_toArray, List.getElem_cons_zero, List.getElem_cons_succ]
        exact RG.RunsIf.nil
      refine RG.wpL_step (i := 2) (by kernel_rfl) (by rfl) (by rfl) (fun K hK => ?_)
      have HK := TW.hide hK
      clear hK
      go_simp
      refine (H5.out _ HT1.out.2.2).mono ?_
      rintro e v2 ⟨rfl, qq, rfl⟩
      have HT2 : Hid ((Y1.drewN qq).heap[B]? = some (.cells (pcP p (.slice sa s.length sc) (.slice ta t.length tc)) 26 (0, 0)) ∧ (Y1.drewN qq).heap[B + 1]? = some (.cells (pcP q (.slice sa' s'.length sc') (.slice ta' t'.length tc')) 26 (0, 0)) ∧ Below B w (Y1.drewN qq)) := ⟨HT1.out.1, HT1.out.2.1, below_drewN HT1.out.2.2 _⟩
      refine HK.out _ _ HT2.out (fun _ => trivial) ?_
      clear HK K HT1
      generalize Y1.drewN qq = Y2 at *
      refine RG.wpL_step (i := 5) (by kernel_rfl) (by rfl) (by rfl) (fun K hK => ?_)
      have HK := TW.hide hK
      clear hK
      go_simp
      refine (H6.out _ HT2.out.2.2).mono ?_
      rintro e v3 ⟨rfl, qq, rfl⟩
      have HT3 : Hid ((Y2.drewN qq).heap[B]? = some (.cells (pcP p (.slice sa s.length sc) (.slice ta t.length tc)) 26 (0, 0)) ∧ (Y2.drewN qq).heap[B + 1]? = some (.cells (pcP q (.slice sa' s'.length sc') (.slice ta' t'.length tc')) 26 (0, 0)) ∧ Below B w (Y2.drewN qq)) := ⟨HT2.out.1, HT2.out.2.1, below_drewN HT2.out.2.2 _⟩
      refine HK.out _ _ HT3.out (fun _ => trivial) ?_
      clear HK K HT2
      generalize Y2.drewN qq = Y3 at *
      refine RG.wpL_step (i := 6) (by kernel_rfl) (by rfl) (by rfl) (fun K hK => ?_)
      have HK := TW.hide hK
      clear hK
      go_simp
      refine (H7.out _ HT3.out.2.2).mono ?_
      rintro e v3 ⟨rfl, rfl⟩
      refine HK.out _ _ HT3.out (fun _ => trivial) ?_
      clear HK K
      cases y1
      · refine RG.wpL_take (fuel := 2) (a' := ?A3) [7, 8, 9, 10, 11, 12, 13, 14] (by kernel_rfl) (by kernel_rfl) (fun _ _ _ _ _ h => h) HT3.out (fun _ => trivial) ?r3 ?_
        case r3 =>
          refine RG.RunsIf.weak (v := ?_) (by rfl) (by rfl) (fun Z hT => ?_) ?_
          rotate_left
          · skip
            go_simp
            rfl
          simp only [Act.put, List.setIfInBounds_toArray, List.set_cons_zero, List.set_cons_succ, List.getElem_toArray, List.getElem_cons_zero, List.getElem_cons_succ]
          refine RG.RunsIf.skip (by rfl) (by rfl) ?_
          simp only [Act.put, List.setIfInBounds_toArray, List.set_cons_zero, List.set_cons_succ, List.getElem_toArray, List.getElem_cons_zero, List.getElem_cons_succ]
          refine RG.RunsIf.skip (by rfl) (by rfl) ?_
          simp only [Act.put, List.setIfInBounds_toArray, List.set_cons_zero, List.set_cons_succ, List.getElem_toArray, List.getElem_cons_zero, List.getElem_cons_succ]
          refine RG.RunsIf.skip (by rfl) (by rfl) ?_
          simp only [Act.put, List.setIfInBounds_toArray, List.set_cons_zero, List.set_cons_succ, List.getElem_toArray, List.getElem_cons_zero, List.getElem_cons_succ]
          refine RG.RunsIf.skip (by rfl) (by rfl) ?_
          simp only [Act.put, List.setIfInBounds_toArray, List.set_cons_zero, List.set_cons_succ, List.getElem_toArray, List.getElem_cons_zero, List.getElem_cons_succ]
          refine RG.RunsIf.skip (by rfl) (by rfl) ?_
          simp only [Act.put, List.setIfInBounds_toArray, List.set_cons_zero, List.set_cons_succ, List.getElem_toArray, List.getElem_cons_zero, List.getElem_cons_succ]
          refine RG.RunsIf.skip (by rfl) (by rfl) ?_
          simp only [Act.put, List.setIfInBounds_toArray, List.set_cons_zero, List.set_cons_succ, List.getElem_toArray, List.getElem_cons_zero, List.getElem_cons_succ]
          refine RG.RunsIf.skip (by rfl) (by rfl) ?_
          simp only [Act.put, List.setIfInBounds_toArray, List.set_cons_zero, List.set_cons_succ, List.getElem_toArray, List.getElem_cons_zero, List.getElem_cons_succ]
          exact RG.RunsIf.nil
        refine RG.wpL_step (i := 15) (by kernel_rfl) (by rfl) (by rfl) (fun K hK => ?_)
        have HK := TW.hide hK
        clear hK
        go_simp
        refine HK.out _ _ HT3.out (fun _ => trivial) ?_
        clear HK K
        refine RG.wpL_step (i := 16) (by kernel_rfl) (by rfl) (by rfl) (fun K hK => ?_)
        have HK := TW.hide hK
        clear hK
        go_simp
        refine HK.out _ _ HT3.out (fun _ => trivial) ?_
        clear HK K
        refine RG.wpL_done (by kernel_rfl) ?_ _
        refine NoPanic.normal ?_
        go_wp2
        go_ret2
        exact ⟨by rw [HYY.out]; rfl, HT3.out.2.2⟩
      · refine RG.wpL_take (fuel := 5) (a' := ?A4) [7, 8, 9, 11, 12] (by kernel_rfl) (by kernel_rfl) (fun _ _ _ _ _ h => h) HT3.out (fun _ => trivial) ?r4 ?_
        case r4 =>
          refine RG.RunsIf.weak (v := ?_) (by rfl) (by rfl) (fun Z hT => ?_) ?_
          rotate_left
          · skip
            go_simp
            rfl
          simp only [Act.put, List.setIfInBounds_toArray, List.set_cons_zero, List.set_cons_succ, List.getElem_toArray, List.getElem_cons_zero, List.getElem_cons_succ]
          refine RG.RunsIf.weak (v := ?_) (by rfl) (by rfl) (fun Z hT => ?_) ?_
          rotate_left
          · skip
            go_simp
            rfl
          simp only [Act.put, List.setIfInBounds_toArray, List.set_cons_zero, List.set_cons_succ, List.getElem_toArray, List.getElem_cons_zero, List.getElem_cons_succ]
          refine RG.RunsIf.weak (v := ?_) (by rfl) (by rfl) (fun Z hT => ?_) ?_
          rotate_left
          · have c := blk_cell hT.1 (i := 10) (v := .slice ta t.length tc) rfl
            go_simp
            rfl
          simp only [Act.put, List.setIfInBounds_toArray, List.set_cons_zero, List.set_cons_succ, List.getElem_toArray, List.getElem_cons_zero, List.getElem_cons_succ]
          refine RG.RunsIf.weak (v := ?_) (by rfl) (by rfl) (fun Z hT => ?_) ?_
          rotate_left
          · skip
            go_simp
            rfl
          simp only [Act.put, List.setIfInBounds_toArray, List.set_cons_zero, List.set_cons_succ, List.getElem_toArray, List.getElem_cons_zero, List.getElem_cons_succ]
          refine RG.RunsIf.weak (v := ?_) (by rfl) (by rfl) (fun Z hT => ?_) ?_
          rotate_left
          · have c := blk_cell hT.2.1 (i := 10) (v := .slice ta' t'.length tc') rfl
            go_simp
            rfl
          simp only [Act.put, List.setIfInBounds_toArray, List.set_cons_zero, List.set_cons_succ, List.getElem_toArray, List.getElem_cons_zero, List.getElem_cons_succ]
          exact RG.RunsIf.nil
        refine RG.wpL_stepw (i := 10) (by kernel_rfl) (by rfl) (by rfl) (fun K hK => ?_)
        have HK := TW.hide hK
        clear hK
        go_simp
        refine (H8.out _ HT3.out.2.2).mono ?_
        rintro e v4 ⟨rfl, qq, rfl⟩
        have HT4 : Hid ((Y3.drewN qq).heap[B]? = some (.cells (pcP p (.slice sa s.length sc) (.slice ta t.length tc)) 26 (0, 0)) ∧ (Y3.drewN qq).heap[B + 1]? = some (.cells (pcP q (.slice sa' s'.length sc') (.slice ta' t'.length tc')) 26 (0, 0)) ∧ Below B w (Y3.drewN qq)) := ⟨HT3.out.1, HT3.out.2.1, below_drewN HT3.out.2.2 _⟩
        refine HK.out _ _ HT4.out (fun _ => trivial) ?_
        clear HK K HT3
        generalize Y3.drewN qq = Y4 at *
        refine RG.wpL_stepw (i := 13) (by kernel_rfl) (by rfl) (by rfl) (fun K hK => ?_)
        have HK := TW.hide hK
        clear hK
        go_simp
        refine (H9.out _ HT4.out.2.2).mono ?_
        rintro e v5 ⟨rfl, qq, rfl⟩
        have HT5 : Hid ((Y4.drewN qq).heap[B]? = some (.cells (pcP p (.slice sa s.length sc) (.slice ta t.length tc)) 26 (0, 0)) ∧ (Y4.drewN qq).heap[B + 1]? = some (.cells (pcP q (.slice sa' s'.length sc') (.slice ta' t'.length tc')) 26 (0, 0)) ∧ Below B w (Y4.drewN qq)) := ⟨HT4.out.1, HT4.out.2.1, below_drewN HT4.out.2.2 _⟩
        refine HK.out _ _ HT5.out (fun _ => trivial) ?_
        clear HK K HT4
        generalize Y4.drewN qq = Y5 at *
        refine RG.wpL_stepw (i := 14) (by kernel_rfl) (by rfl) (by rfl) (fun K hK => ?_)
        have HK := TW.hide hK
        clear hK
        go_simp
        refine (H10.out _ HT5.out.2.2).mono ?_
        rintro e v5 ⟨rfl, rfl⟩
        refine HK.out _ _ HT5.out (fun _ => trivial) ?_
        clear HK K
        refine RG.wpL_step (i := 15) (by kernel_rfl) (by rfl) (by rfl) (fun K hK => ?_)
        have HK := TW.hide hK
        clear hK
        go_simp
        refine HK.out _ _ HT5.out (fun _ => trivial) ?_
        clear HK K
        refine RG.wpL_step (i := 16) (by kernel_rfl) (by rfl) (by rfl) (fun K hK => ?_)
        have HK := TW.hide hK
        clear hK
        go_simp
        refine HK.out _ _ HT5.out (fun _ => trivial) ?_
        clear HK K
        refine RG.wpL_done (by kernel_rfl) ?_ _
        refine NoPanic.normal ?_
        go_wp2
        go_ret2
        exact ⟨by rw [HYY.out]; rfl, HT5.out.2.2⟩
end LW
end Go.Proofs.Ytpcahieaakjaaaa
