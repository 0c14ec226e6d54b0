/-
  What the program's call for a node's parameters gives.
-/
import Derived.Test.YthbakhgfnfdahaaStrand
import Derived.Test.YthbakhgfnfdahaaPair
namespace Go.Proofs.Ythbakhgfnfdahaa
open Go.RowKit
set_option linter.unusedVariables false
set_option linter.unusedSimpArgs false
namespace LW
open Words
attribute [local go_sem ↓] Go.wp_at_zero Go.wp_at_succ
set_option maxHeartbeats 2000000 in
theorem params_ (k d y at_ : Int) (sa ta : Option Addr) (sl sc tl tc : Nat) (w : World) (h0 : 0 ≤ at_) (h1 : at_ ≤ 8) : Calls Try.prog 25 #[.agg (stC k d y (.slice sa sl sc) (.slice ta tl tc) at_)] w fun e w' => e = .returned (.agg (pc d y (nl k) 2 0 (ofs k at_) 0 (ndp k at_) (mo k) (.slice sa sl sc) (.slice ta tl tc))) ∧ Below w.heap.size w w' := by
  have HL := TW.hide (fun W => lanes k d y (.slice sa sl sc) (.slice ta tl tc) W)
  have HI := TW.hide (fun W => inner k d y (.slice sa sl sc) (.slice ta tl tc) W)
  have HR := TW.hide (fun W => isRoot k d y (.slice sa sl sc) (.slice ta tl tc) at_ W)
  have ho : Hid (ofs k at_ = if at_ = (nl k : Int) then 0 else at_) := rfl
  have hd : Hid (ndp k at_ = if at_ = (nl k : Int) then 1 else 0) := rfl
  generalize ofs k at_ = of at *
  generalize ndp k at_ = nd at *
  generalize nl k = n at *
  generalize mo k = m at *
  unfold pc
  unfold stC at *
  unfold shC at *
  go_enter Try.func25, Try.ntmps25
  refine wp_seq_k fun K hK => ?_
  have HK := TW.hide hK
  clear hK
  go_wp2
  refine HK.out _ _ ?_
  clear HK K
  have n0 := blk_alloc (o' := .cells #[.int .i64 0, .int .i64 0, .int .i64 0, .int .i64 0, .int .u32 0, .int .u64 0, .int .u32 0, .int .i64 0, .int .i64 0, .slice none 0 0, .slice none 0 0] 47) (heap_alloc_new w (.cells #[.int .i64 k, .int .i64 d, .int .i64 y, .slice sa sl sc, .slice ta tl tc, .int .i64 at_] 60))
  have n1 := heap_alloc_new (w.alloc (.cells #[.int .i64 k, .int .i64 d, .int .i64 y, .slice sa sl sc, .slice ta tl tc, .int .i64 at_] 60)) (.cells #[.int .i64 0, .int .i64 0, .int .i64 0, .int .i64 0, .int .u32 0, .int .u64 0, .int .u32 0, .int .i64 0, .int .i64 0, .slice none 0 0, .slice none 0 0] 47)
  have hb := ((Below.refl w.heap.size w).alloc (Nat.le_refl _) (.cells #[.int .i64 k, .int .i64 d, .int .i64 y, .slice sa sl sc, .slice ta tl tc, .int .i64 at_] 60)).alloc (by simp) (.cells #[.int .i64 0, .int .i64 0, .int .i64 0, .int .i64 0, .int .u32 0, .int .u64 0, .int .u32 0, .int .i64 0, .int .i64 0, .slice none 0 0, .slice none 0 0] 47)
  rw [show (w.alloc (.cells #[.int .i64 k, .int .i64 d, .int .i64 y, .slice sa sl sc, .slice ta tl tc, .int .i64 at_] 60)).heap.size = w.heap.size + 1 by simp] at n1
  generalize (w.alloc _).alloc _ = W at n0 n1 hb ⊢
  have hE := blk_lt n1
  have HN0 := TW.hide n0
  have HN1 := TW.hide n1
  have HB := TW.hide hb
  have HT0 : Hid (Below W.heap.size W W) := Below.refl _ _
  clear n0 n1 hb
  refine wp_seq_k fun KQ hK => ?_
  have HQ := TW.hide hK
  clear hK
  refine wp_region_noPanic ?_
  refine RG.wp_region_L (fun Z => True) (fun Z => Below W.heap.size W Z) [] (by kernel_rfl) ?_
  refine RG.wpL_any fun Y hY => ?_
  have HT : Hid (Below W.heap.size W Y) := by rw [hY]; exact below_drewN HT0.out 1
  clear hY
  refine RG.wpL_take (fuel := 5) (a' := ?At) [0, 1, 2, 3, 4, 5, 6, 7, 9, 10, 12, 13, 14, 15, 16, 17] (by kernel_rfl) (by kernel_rfl) (fun _ _ _ _ _ h => h) HT.out (fun _ => trivial) ?rt ?_
  case rt =>
    refine RG.RunsIf.weak (v := ?_) (by rfl) (by rfl) (fun Z hT => ?_) ?_
    rotate_left
    · go_simp
      rfl
    simp only [Act.put, List.setIfInBounds_toArray, List.set_cons_zero, List.set_cons_succ, List.getElem_toArray, List.getElem_cons_zero, List.getElem_cons_succ]
    refine RG.RunsIf.weak (v := ?_) (by rfl) (by rfl) (fun Z hT => ?_) ?_
    rotate_left
    · go_simp
      rfl
    simp only [Act.put, List.setIfInBounds_toArray, List.set_cons_zero, List.set_cons_succ, List.getElem_toArray, List.getElem_cons_zero, List.getElem_cons_succ]
    refine RG.RunsIf.weak (v := .int .i64 d) (by rfl) (by rfl) (fun Z hT => ?_) ?_
    · obtain ⟨c0, c1, c2, c3, c4, c5⟩ := cells6 (blk_keep HN0.out hT)
      go_simp
    simp only [Act.put, List.setIfInBounds_toArray, List.set_cons_zero, List.set_cons_succ, List.getElem_toArray, List.getElem_cons_zero, List.getElem_cons_succ]
    refine RG.RunsIf.weak (v := ?_) (by rfl) (by rfl) (fun Z hT => ?_) ?_
    rotate_left
    · go_simp
      rfl
    simp only [Act.put, List.setIfInBounds_toArray, List.set_cons_zero, List.set_cons_succ, List.getElem_toArray, List.getElem_cons_zero, List.getElem_cons_succ]
    refine RG.RunsIf.weak (v := ?_) (by rfl) (by rfl) (fun Z hT => ?_) ?_
    rotate_left
    · go_simp
      rfl
    simp only [Act.put, List.setIfInBounds_toArray, List.set_cons_zero, List.set_cons_succ, List.getElem_toArray, List.getElem_cons_zero, List.getElem_cons_succ]
    refine RG.RunsIf.weak (v := .int .i64 y) (by rfl) (by rfl) (fun Z hT => ?_) ?_
    · obtain ⟨c0, c1, c2, c3, c4, c5⟩ := cells6 (blk_keep HN0.out hT)
      go_simp
    simp only [Act.put, List.setIfInBounds_toArray, List.set_cons_zero, List.set_cons_succ, List.getElem_toArray, List.getElem_cons_zero, List.getElem_cons_succ]
    refine RG.RunsIf.weak (v := ?_) (by rfl) (by rfl) (fun Z hT => ?_) ?_
    rotate_left
    · go_simp
      rfl
    simp only [Act.put, List.setIfInBounds_toArray, List.set_cons_zero, List.set_cons_succ, List.getElem_toArray, List.getElem_cons_zero, List.getElem_cons_succ]
    refine RG.RunsIf.weak (v := .agg #[.int .i64 k, .int .i64 d, .int .i64 y, .slice sa sl sc, .slice ta tl tc]) (by rfl) (by rfl) (fun Z hT => ?_) ?_
    · obtain ⟨c0, c1, c2, c3, c4, c5⟩ := cells6 (blk_keep HN0.out hT)
      go_simp
    simp only [Act.put, List.setIfInBounds_toArray, List.set_cons_zero, List.set_cons_succ, List.getElem_toArray, List.getElem_cons_zero, List.getElem_cons_succ]
    refine RG.RunsIf.weak (v := ?_) (by rfl) (by rfl) (fun Z hT => ?_) ?_
    rotate_left
    · go_simp
      rfl
    simp only [Act.put, List.setIfInBounds_toArray, List.set_cons_zero, List.set_cons_succ, List.getElem_toArray, List.getElem_cons_zero, List.getElem_cons_succ]
    refine RG.RunsIf.weak (v := .agg #[.int .i64 k, .int .i64 d, .int .i64 y, .slice sa sl sc, .slice ta tl tc]) (by rfl) (by rfl) (fun Z hT => ?_) ?_
    · obtain ⟨c0, c1, c2, c3, c4, c5⟩ := cells6 (blk_keep HN0.out hT)
      go_simp
    simp only [Act.put, List.setIfInBounds_toArray, List.set_cons_zero, List.set_cons_succ, List.getElem_toArray, List.getElem_cons_zero, List.getElem_cons_succ]
    refine RG.RunsIf.weak (v := ?_) (by rfl) (by rfl) (fun Z hT => ?_) ?_
    rotate_left
    · go_simp
      rfl
    simp only [Act.put, List.setIfInBounds_toArray, List.set_cons_zero, List.set_cons_succ, List.getElem_toArray, List.getElem_cons_zero, List.getElem_cons_succ]
    refine RG.RunsIf.weak (v := ?_) (by rfl) (by rfl) (fun Z hT => ?_) ?_
    rotate_left
    · go_simp
      rfl
    simp only [Act.put, List.setIfInBounds_toArray, List.set_cons_zero, List.set_cons_succ, List.getElem_toArray, List.getElem_cons_zero, List.getElem_cons_succ]
    refine RG.RunsIf.weak (v := .slice sa sl sc) (by rfl) (by rfl) (fun Z hT => ?_) ?_
    · obtain ⟨c0, c1, c2, c3, c4, c5⟩ := cells6 (blk_keep HN0.out hT)
      go_simp
    simp only [Act.put, List.setIfInBounds_toArray, List.set_cons_zero, List.set_cons_succ, List.getElem_toArray, List.getElem_cons_zero, List.getElem_cons_succ]
    refine RG.RunsIf.weak (v := ?_) (by rfl) (by rfl) (fun Z hT => ?_) ?_
    rotate_left
    · go_simp
      rfl
    simp only [Act.put, List.setIfInBounds_toArray, List.set_cons_zero, List.set_cons_succ, List.getElem_toArray, List.getElem_cons_zero, List.getElem_cons_succ]
    refine RG.RunsIf.weak (v := ?_) (by rfl) (by rfl) (fun Z hT => ?_) ?_
    rotate_left
    · go_simp
      rfl
    simp only [Act.put, List.setIfInBounds_toArray, List.set_cons_zero, List.set_cons_succ, List.getElem_toArray, List.getElem_cons_zero, List.getElem_cons_succ]
    refine RG.RunsIf.weak (v := .slice ta tl tc) (by rfl) (by rfl) (fun Z hT => ?_) ?_
    · obtain ⟨c0, c1, c2, c3, c4, c5⟩ := cells6 (blk_keep HN0.out hT)
      go_simp
    simp only [Act.put, List.setIfInBounds_toArray, List.set_cons_zero, List.set_cons_succ, List.getElem_toArray, List.getElem_cons_zero, List.getElem_cons_succ]
    exact RG.RunsIf.nil
  refine RG.wpL_pair (i := 8) (j := 19) (by kernel_rfl) (by rfl) (by rfl) (by rfl) (by rfl) (fun KX hK => ?_) (fun KX hK => ?_)
  · have HK := TW.hide hK
    clear hK
    go_simp
    refine (HL.out Y).mono ?_
    rintro e W1 ⟨rfl, hc⟩
    have T1 : Hid (Below W.heap.size W W1) := below_row HT.out hc HT.out.size
    refine HK.out _ _ T1.out (fun _ => trivial) ?_
    clear HK KX
    try simp only [Act.put, List.setIfInBounds_toArray, List.set_cons_zero, List.set_cons_succ, List.getElem_toArray, List.getElem_cons_zero, List.getElem_cons_succ]
    clear hc HT
    refine RG.wpL_pair (i := 11) (j := 19) (by kernel_rfl) (by rfl) (by rfl) (by rfl) (by rfl) (fun KX hK => ?_) (fun KX hK => ?_)
    · have HK := TW.hide hK
      clear hK
      go_simp
      refine (HI.out W1).mono ?_
      rintro e W2 ⟨rfl, hc⟩
      have T2 : Hid (Below W.heap.size W W2) := below_row T1.out hc T1.out.size
      refine HK.out _ _ T2.out (fun _ => trivial) ?_
      clear HK KX
      try simp only [Act.put, List.setIfInBounds_toArray, List.set_cons_zero, List.set_cons_succ, List.getElem_toArray, List.getElem_cons_zero, List.getElem_cons_succ]
      clear hc T1
      refine RG.wpL_take (fuel := 2) (a' := ?Aa) [18] (by kernel_rfl) (by kernel_rfl) (fun _ _ _ _ _ h => h) T2.out (fun _ => trivial) ?ra ?_
      case ra =>
        refine RG.RunsIf.weak (v := .agg #[.int .i64 d, .int .i64 y, .int .i64 n, .int .i64 2, .int .u32 0, .int .u64 0, .int .u32 0, .int .i64 0, .int .i64 m, .slice sa sl sc, .slice ta tl tc]) (by rfl) (by rfl) (fun Z hT => ?_) ?_
        · go_simp
        simp only [Act.put, List.setIfInBounds_toArray, List.set_cons_zero, List.set_cons_succ, List.getElem_toArray, List.getElem_cons_zero, List.getElem_cons_succ]
        exact RG.RunsIf.nil
      refine RG.wpL_step (i := 19) (by kernel_rfl) (by rfl) (by rfl) (fun KX hK => ?_)
      have HK := TW.hide hK
      clear hK
      have gB : W.heap.size ≤ W2.heap.size := T2.out.size
      have TX : Hid (Below W.heap.size W (W2.alloc (.cells #[.int .i64 0, .int .i64 0, .int .i64 0, .int .i64 0, .int .u32 0, .int .u64 0, .int .u32 0, .int .i64 0, .int .i64 0, .slice none 0 0, .slice none 0 0] 47))) := T2.out.alloc gB _
      have NX := TW.hide (heap_alloc_new W2 (.cells #[.int .i64 0, .int .i64 0, .int .i64 0, .int .i64 0, .int .u32 0, .int .u64 0, .int .u32 0, .int .i64 0, .int .i64 0, .slice none 0 0, .slice none 0 0] 47))
      go_simp
      refine HK.out _ _ TX.out (fun _ => trivial) ?_
      clear HK KX
      try simp only [Act.put, List.setIfInBounds_toArray, List.set_cons_zero, List.set_cons_succ, List.getElem_toArray, List.getElem_cons_zero, List.getElem_cons_succ]
      clear T2
      generalize W2.alloc (.cells #[.int .i64 0, .int .i64 0, .int .i64 0, .int .i64 0, .int .u32 0, .int .u64 0, .int .u32 0, .int .i64 0, .int .i64 0, .slice none 0 0, .slice none 0 0] 47) = X1 at *
      generalize W2.heap.size = g at *
      have T5 : Hid (Below W.heap.size W (X1.setRow g #[.int .i64 d, .int .i64 y, .int .i64 n, .int .i64 2, .int .u32 0, .int .u64 0, .int .u32 0, .int .i64 0, .int .i64 m, .slice sa sl sc, .slice ta tl tc])) := below_setRow TX.out gB
      have N5 := TW.hide (setRow_heap _ _ _ #[.int .i64 d, .int .i64 y, .int .i64 n, .int .i64 2, .int .u32 0, .int .u64 0, .int .u32 0, .int .i64 0, .int .i64 m, .slice sa sl sc, .slice ta tl tc] _ _ NX.out)
      refine RG.wpL_step (i := 20) (by kernel_rfl) (by rfl) (by rfl) (fun KX hK => ?_)
      have HK := TW.hide hK
      clear hK
      refine wp_store_row 47 _ _ (by rfl) g #[.int .i64 d, .int .i64 y, .int .i64 n, .int .i64 2, .int .u32 0, .int .u64 0, .int .u32 0, .int .i64 0, .int .i64 m, .slice sa sl sc, .slice ta tl tc] (by rfl) (by rfl) 47 _ NX.out (by kernel_rfl) (by rfl) (by simp [Value.oneCell']) ?_
      try simp only [Act.put, List.setIfInBounds_toArray, List.set_cons_zero, List.set_cons_succ, List.getElem_toArray, List.getElem_cons_zero, List.getElem_cons_succ]
      refine HK.out _ _ T5.out (fun _ => trivial) ?_
      clear HK KX
      generalize X1.setRow g #[.int .i64 d, .int .i64 y, .int .i64 n, .int .i64 2, .int .u32 0, .int .u64 0, .int .u32 0, .int .i64 0, .int .i64 m, .slice sa sl sc, .slice ta tl tc] = Z1 at *
      refine RG.wpL_done (by kernel_rfl) ?_ _
      refine NoPanic.normal ?_
      have nS := blk_keep HN0.out T5.out
      have nR := blk_keep HN1.out T5.out
      obtain ⟨c0, c1, c2, c3, c4, c5⟩ := cells6 nS
      have hgl := blk_lt N5.out
      have hzl : w.heap.size + 1 < Z1.heap.size := blk_lt nR
      refine HQ.out _ _ ?_
      clear HQ KQ
      refine wp_seq_k fun KV hK => ?_
      have HV := TW.hide hK
      clear hK
      go_wp2_with fail
      refine (HR.out _).mono ?_
      rintro e w6 ⟨rfl, hb6⟩
      have nG6 := blk_keep N5.out hb6
      have nR6 := blk_keep nR hb6
      have nS6 := blk_keep nS hb6
      have B6 : Hid (Below w.heap.size w w6) := below_row (below_row HB.out T5.out (by omega)) hb6 (by omega)
      have hgB : w.heap.size ≤ g := by omega
      have hgR : g ≠ w.heap.size + 1 := by omega
      clear hb6 nS nR c0 c1 c2 c3 c4 c5 T5 N5 hgl hzl
      obtain ⟨c0, c1, c2, c3, c4, c5⟩ := cells6 nS6
      obtain ⟨p0, p1, p2, p3, p4, p5, p6, p7, p8, p9, p10, f0, f1, f2, f3, f4, f5, f6, f7, f8, f9, f10⟩ := cells11 nG6
      by_cases hroot : at_ = (n : Int)
      · have hbq : (at_ == (n : Int)) = true := by simp [hroot]
        have ho1 : 0 = of := by rw [ho.out, if_pos hroot]
        have hd1 : 1 = nd := by rw [hd.out, if_pos hroot]
        subst ho1 hd1
        have hG := blk_set (i := 7) (u := .int .i64 1) nG6
        have hRR : (w6.setCell ⟨g, 7, none⟩ (.int .i64 1)).heap[w.heap.size + 1]? = some (.cells #[.int .i64 0, .int .i64 0, .int .i64 0, .int .i64 0, .int .u32 0, .int .u64 0, .int .u32 0, .int .i64 0, .int .i64 0, .slice none 0 0, .slice none 0 0] 47 (0, 0)) := by rw [Below.heap_setCell _ _ _ _ (Ne.symm hgR)]; exact nR6
        have B7 : Hid (Below w.heap.size w (w6.setCell ⟨g, 7, none⟩ (.int .i64 1))) := B6.out.setCell hgB _
        have HG := TW.hide hG
        have HRR := TW.hide hRR
        have ew : IntKind.u64.wrap at_ = at_ := by rw [IntKind.wrap_u64]; omega
        clear hroot hG hRR ho hd nG6 nR6 nS6
        go_wp2
        refine HV.out _ _ ?_
        clear HV KV
        generalize w6.setCell _ _ = X at HG HRR B7 ⊢
        have hG : X.heap[g]? = some (.cells #[.int .i64 d, .int .i64 y, .int .i64 n, .int .i64 2, .int .u32 0, .int .u64 0, .int .u32 0, .int .i64 1, .int .i64 m, .slice sa sl sc, .slice ta tl tc] 47 (0, 0)) := by simpa using HG.out
        clear p0 p1 p2 p3 p4 p5 p6 p7 p8 p9 p10 f0 f1 f2 f3 f4 f5 f6 f7 f8 f9 f10 c0 c1 c2 c3 c4 c5
        obtain ⟨p0, p1, p2, p3, p4, p5, p6, p7, p8, p9, p10, f0, f1, f2, f3, f4, f5, f6, f7, f8, f9, f10⟩ := cells11 hG
        clear hG f0 f1 f2 f3 f4 f5 f6 f7 f8 f9 f10
        go_wp2_with (refine wpList_store_row (by rfl) 47 _ _ (by rfl) (w.heap.size + 1) #[.int .i64 d, .int .i64 y, .int .i64 n, .int .i64 2, .int .u32 0, .int .u64 0, .int .u32 0, .int .i64 1, .int .i64 m, .slice sa sl sc, .slice ta tl tc] (by rfl) (by rfl) 47 _ HRR.out (by kernel_rfl) (by rfl) (by simp [Value.oneCell']) ?_)
        have hN := setRow_heap _ _ _ #[.int .i64 d, .int .i64 y, .int .i64 n, .int .i64 2, .int .u32 0, .int .u64 0, .int .u32 0, .int .i64 1, .int .i64 m, .slice sa sl sc, .slice ta tl tc] _ _ HRR.out
        have hB := below_setRow (cs := #[.int .i64 d, .int .i64 y, .int .i64 n, .int .i64 2, .int .u32 0, .int .u64 0, .int .u32 0, .int .i64 1, .int .i64 m, .slice sa sl sc, .slice ta tl tc]) B7.out (g := w.heap.size + 1) (by omega)
        generalize X.setRow _ _ = X9 at hN hB ⊢
        refine bodyPost_ret (v := .agg #[.int .i64 d, .int .i64 y, .int .i64 n, .int .i64 2, .int .u32 0, .int .u64 0, .int .u32 0, .int .i64 1, .int .i64 m, .slice sa sl sc, .slice ta tl tc]) (results_cell_row (P := Try.prog) Try.results25 _ _ (w.heap.size + 1) 47 _ (0, 0) _ rfl hN Try.underlying47 rfl (by kernel_rfl)) rfl ⟨rfl, ?_⟩
        exact hB
      · have hbq : (at_ == (n : Int)) = false := by simp [hroot]
        have ho1 : at_ = of := by rw [ho.out, if_neg hroot]
        have hd1 : 0 = nd := by rw [hd.out, if_neg hroot]
        subst ho1 hd1
        have hG := blk_set (i := 5) (u := .int .u64 at_) nG6
        have hRR : (w6.setCell ⟨g, 5, none⟩ (.int .u64 at_)).heap[w.heap.size + 1]? = some (.cells #[.int .i64 0, .int .i64 0, .int .i64 0, .int .i64 0, .int .u32 0, .int .u64 0, .int .u32 0, .int .i64 0, .int .i64 0, .slice none 0 0, .slice none 0 0] 47 (0, 0)) := by rw [Below.heap_setCell _ _ _ _ (Ne.symm hgR)]; exact nR6
        have B7 : Hid (Below w.heap.size w (w6.setCell ⟨g, 5, none⟩ (.int .u64 at_))) := B6.out.setCell hgB _
        have HG := TW.hide hG
        have HRR := TW.hide hRR
        have ew : IntKind.u64.wrap at_ = at_ := by rw [IntKind.wrap_u64]; omega
        clear hroot hG hRR ho hd nG6 nR6 nS6
        go_wp2
        refine HV.out _ _ ?_
        clear HV KV
        generalize w6.setCell _ _ = X at HG HRR B7 ⊢
        have hG : X.heap[g]? = some (.cells #[.int .i64 d, .int .i64 y, .int .i64 n, .int .i64 2, .int .u32 0, .int .u64 at_, .int .u32 0, .int .i64 0, .int .i64 m, .slice sa sl sc, .slice ta tl tc] 47 (0, 0)) := by simpa using HG.out
        clear p0 p1 p2 p3 p4 p5 p6 p7 p8 p9 p10 f0 f1 f2 f3 f4 f5 f6 f7 f8 f9 f10 c0 c1 c2 c3 c4 c5
        obtain ⟨p0, p1, p2, p3, p4, p5, p6, p7, p8, p9, p10, f0, f1, f2, f3, f4, f5, f6, f7, f8, f9, f10⟩ := cells11 hG
        clear hG f0 f1 f2 f3 f4 f5 f6 f7 f8 f9 f10
        go_wp2_with (refine wpList_store_row (by rfl) 47 _ _ (by rfl) (w.heap.size + 1) #[.int .i64 d, .int .i64 y, .int .i64 n, .int .i64 2, .int .u32 0, .int .u64 at_, .int .u32 0, .int .i64 0, .int .i64 m, .slice sa sl sc, .slice ta tl tc] (by rfl) (by rfl) 47 _ HRR.out (by kernel_rfl) (by rfl) (by simp [Value.oneCell']) ?_)
        have hN := setRow_heap _ _ _ #[.int .i64 d, .int .i64 y, .int .i64 n, .int .i64 2, .int .u32 0, .int .u64 at_, .int .u32 0, .int .i64 0, .int .i64 m, .slice sa sl sc, .slice ta tl tc] _ _ HRR.out
        have hB := below_setRow (cs := #[.int .i64 d, .int .i64 y, .int .i64 n, .int .i64 2, .int .u32 0, .int .u64 at_, .int .u32 0, .int .i64 0, .int .i64 m, .slice sa sl sc, .slice ta tl tc]) B7.out (g := w.heap.size + 1) (by omega)
        generalize X.setRow _ _ = X9 at hN hB ⊢
        refine bodyPost_ret (v := .agg #[.int .i64 d, .int .i64 y, .int .i64 n, .int .i64 2, .int .u32 0, .int .u64 at_, .int .u32 0, .int .i64 0, .int .i64 m, .slice sa sl sc, .slice ta tl tc]) (results_cell_row (P := Try.prog) Try.results25 _ _ (w.heap.size + 1) 47 _ (0, 0) _ rfl hN Try.underlying47 rfl (by kernel_rfl)) rfl ⟨rfl, ?_⟩
        exact hB
    · have HK := TW.hide hK
      clear hK
      have gB : W.heap.size ≤ W1.heap.size := T1.out.size
      have TX : Hid (Below W.heap.size W (W1.alloc (.cells #[.int .i64 0, .int .i64 0, .int .i64 0, .int .i64 0, .int .u32 0, .int .u64 0, .int .u32 0, .int .i64 0, .int .i64 0, .slice none 0 0, .slice none 0 0] 47))) := T1.out.alloc gB _
      have NX := TW.hide (heap_alloc_new W1 (.cells #[.int .i64 0, .int .i64 0, .int .i64 0, .int .i64 0, .int .u32 0, .int .u64 0, .int .u32 0, .int .i64 0, .int .i64 0, .slice none 0 0, .slice none 0 0] 47))
      go_simp
      refine HK.out _ _ TX.out (fun _ => trivial) ?_
      clear HK KX
      try simp only [Act.put, List.setIfInBounds_toArray, List.set_cons_zero, List.set_cons_succ, List.getElem_toArray, List.getElem_cons_zero, List.getElem_cons_succ]
      clear T1
      generalize W1.alloc (.cells #[.int .i64 0, .int .i64 0, .int .i64 0, .int .i64 0, .int .u32 0, .int .u64 0, .int .u32 0, .int .i64 0, .int .i64 0, .slice none 0 0, .slice none 0 0] 47) = X1 at *
      generalize W1.heap.size = g at *
      refine RG.wpL_step (i := 11) (by kernel_rfl) (by rfl) (by rfl) (fun KX hK => ?_)
      have HK := TW.hide hK
      clear hK
      go_simp
      refine (HI.out X1).mono ?_
      rintro e W2 ⟨rfl, hc⟩
      have T2 : Hid (Below W.heap.size W W2) := below_row TX.out hc TX.out.size
      have N2 := TW.hide (blk_keep NX.out hc)
      refine HK.out _ _ T2.out (fun _ => trivial) ?_
      clear HK KX
      try simp only [Act.put, List.setIfInBounds_toArray, List.set_cons_zero, List.set_cons_succ, List.getElem_toArray, List.getElem_cons_zero, List.getElem_cons_succ]
      clear hc TX NX
      refine RG.wpL_take (fuel := 1) (a' := ?Ab) [18] (by kernel_rfl) (by kernel_rfl) (fun _ _ _ _ _ h => h) T2.out (fun _ => trivial) ?rb ?_
      case rb =>
        refine RG.RunsIf.weak (v := .agg #[.int .i64 d, .int .i64 y, .int .i64 n, .int .i64 2, .int .u32 0, .int .u64 0, .int .u32 0, .int .i64 0, .int .i64 m, .slice sa sl sc, .slice ta tl tc]) (by rfl) (by rfl) (fun Z hT => ?_) ?_
        · go_simp
        simp only [Act.put, List.setIfInBounds_toArray, List.set_cons_zero, List.set_cons_succ, List.getElem_toArray, List.getElem_cons_zero, List.getElem_cons_succ]
        exact RG.RunsIf.nil
      have T5 : Hid (Below W.heap.size W (W2.setRow g #[.int .i64 d, .int .i64 y, .int .i64 n, .int .i64 2, .int .u32 0, .int .u64 0, .int .u32 0, .int .i64 0, .int .i64 m, .slice sa sl sc, .slice ta tl tc])) := below_setRow T2.out gB
      have N5 := TW.hide (setRow_heap _ _ _ #[.int .i64 d, .int .i64 y, .int .i64 n, .int .i64 2, .int .u32 0, .int .u64 0, .int .u32 0, .int .i64 0, .int .i64 m, .slice sa sl sc, .slice ta tl tc] _ _ N2.out)
      refine RG.wpL_step (i := 20) (by kernel_rfl) (by rfl) (by rfl) (fun KX hK => ?_)
      have HK := TW.hide hK
      clear hK
      refine wp_store_row 47 _ _ (by rfl) g #[.int .i64 d, .int .i64 y, .int .i64 n, .int .i64 2, .int .u32 0, .int .u64 0, .int .u32 0, .int .i64 0, .int .i64 m, .slice sa sl sc, .slice ta tl tc] (by rfl) (by rfl) 47 _ N2.out (by kernel_rfl) (by rfl) (by simp [Value.oneCell']) ?_
      try simp only [Act.put, List.setIfInBounds_toArray, List.set_cons_zero, List.set_cons_succ, List.getElem_toArray, List.getElem_cons_zero, List.getElem_cons_succ]
      refine HK.out _ _ T5.out (fun _ => trivial) ?_
      clear HK KX
      generalize W2.setRow g #[.int .i64 d, .int .i64 y, .int .i64 n, .int .i64 2, .int .u32 0, .int .u64 0, .int .u32 0, .int .i64 0, .int .i64 m, .slice sa sl sc, .slice ta tl tc] = Z1 at *
      refine RG.wpL_done (by kernel_rfl) ?_ _
      refine NoPanic.normal ?_
      have nS := blk_keep HN0.out T5.out
      have nR := blk_keep HN1.out T5.out
      obtain ⟨c0, c1, c2, c3, c4, c5⟩ := cells6 nS
      have hgl := blk_lt N5.out
      have hzl : w.heap.size + 1 < Z1.heap.size := blk_lt nR
      refine HQ.out _ _ ?_
      clear HQ KQ
      refine wp_seq_k fun KV hK => ?_
      have HV := TW.hide hK
      clear hK
      go_wp2_with fail
      refine (HR.out _).mono ?_
      rintro e w6 ⟨rfl, hb6⟩
      have nG6 := blk_keep N5.out hb6
      have nR6 := blk_keep nR hb6
      have nS6 := blk_keep nS hb6
      have B6 : Hid (Below w.heap.size w w6) := below_row (below_row HB.out T5.out (by omega)) hb6 (by omega)
      have hgB : w.heap.size ≤ g := by omega
      have hgR : g ≠ w.heap.size + 1 := by omega
      clear hb6 nS nR c0 c1 c2 c3 c4 c5 T5 N5 hgl hzl
      obtain ⟨c0, c1, c2, c3, c4, c5⟩ := cells6 nS6
      obtain ⟨p0, p1, p2, p3, p4, p5, p6, p7, p8, p9, p10, f0, f1, f2, f3, f4, f5, f6, f7, f8, f9, f10⟩ := cells11 nG6
      by_cases hroot : at_ = (n : Int)
      · have hbq : (at_ == (n : Int)) = true := by simp [hroot]
        have ho1 : 0 = of := by rw [ho.out, if_pos hroot]
        have hd1 : 1 = nd := by rw [hd.out, if_pos hroot]
        subst ho1 hd1
        have hG := blk_set (i := 7) (u := .int .i64 1) nG6
        have hRR : (w6.setCell ⟨g, 7, none⟩ (.int .i64 1)).heap[w.heap.size + 1]? = some (.cells #[.int .i64 0, .int .i64 0, .int .i64 0, .int .i64 0, .int .u32 0, .int .u64 0, .int .u32 0, .int .i64 0, .int .i64 0, .slice none 0 0, .slice none 0 0] 47 (0, 0)) := by rw [Below.heap_setCell _ _ _ _ (Ne.symm hgR)]; exact nR6
        have B7 : Hid (Below w.heap.size w (w6.setCell ⟨g, 7, none⟩ (.int .i64 1))) := B6.out.setCell hgB _
        have HG := TW.hide hG
        have HRR := TW.hide hRR
        have ew : IntKind.u64.wrap at_ = at_ := by rw [IntKind.wrap_u64]; omega
        clear hroot hG hRR ho hd nG6 nR6 nS6
        go_wp2
        refine HV.out _ _ ?_
        clear HV KV
        generalize w6.setCell _ _ = X at HG HRR B7 ⊢
        have hG : X.heap[g]? = some (.cells #[.int .i64 d, .int .i64 y, .int .i64 n, .int .i64 2, .int .u32 0, .int .u64 0, .int .u32 0, .int .i64 1, .int .i64 m, .slice sa sl sc, .slice ta tl tc] 47 (0, 0)) := by simpa using HG.out
        clear p0 p1 p2 p3 p4 p5 p6 p7 p8 p9 p10 f0 f1 f2 f3 f4 f5 f6 f7 f8 f9 f10 c0 c1 c2 c3 c4 c5
        obtain ⟨p0, p1, p2, p3, p4, p5, p6, p7, p8, p9, p10, f0, f1, f2, f3, f4, f5, f6, f7, f8, f9, f10⟩ := cells11 hG
        clear hG f0 f1 f2 f3 f4 f5 f6 f7 f8 f9 f10
        go_wp2_with (refine wpList_store_row (by rfl) 47 _ _ (by rfl) (w.heap.size + 1) #[.int .i64 d, .int .i64 y, .int .i64 n, .int .i64 2, .int .u32 0, .int .u64 0, .int .u32 0, .int .i64 1, .int .i64 m, .slice sa sl sc, .slice ta tl tc] (by rfl) (by rfl) 47 _ HRR.out (by kernel_rfl) (by rfl) (by simp [Value.oneCell']) ?_)
        have hN := setRow_heap _ _ _ #[.int .i64 d, .int .i64 y, .int .i64 n, .int .i64 2, .int .u32 0, .int .u64 0, .int .u32 0, .int .i64 1, .int .i64 m, .slice sa sl sc, .slice ta tl tc] _ _ HRR.out
        have hB := below_setRow (cs := #[.int .i64 d, .int .i64 y, .int .i64 n, .int .i64 2, .int .u32 0, .int .u64 0, .int .u32 0, .int .i64 1, .int .i64 m, .slice sa sl sc, .slice ta tl tc]) B7.out (g := w.heap.size + 1) (by omega)
        generalize X.setRow _ _ = X9 at hN hB ⊢
        refine bodyPost_ret (v := .agg #[.int .i64 d, .int .i64 y, .int .i64 n, .int .i64 2, .int .u32 0, .int .u64 0, .int .u32 0, .int .i64 1, .int .i64 m, .slice sa sl sc, .slice ta tl tc]) (results_cell_row (P := Try.prog) Try.results25 _ _ (w.heap.size + 1) 47 _ (0, 0) _ rfl hN Try.underlying47 rfl (by kernel_rfl)) rfl ⟨rfl, ?_⟩
        exact hB
      · have hbq : (at_ == (n : Int)) = false := by simp [hroot]
        have ho1 : at_ = of := by rw [ho.out, if_neg hroot]
        have hd1 : 0 = nd := by rw [hd.out, if_neg hroot]
        subst ho1 hd1
        have hG := blk_set (i := 5) (u := .int .u64 at_) nG6
        have hRR : (w6.setCell ⟨g, 5, none⟩ (.int .u64 at_)).heap[w.heap.size + 1]? = some (.cells #[.int .i64 0, .int .i64 0, .int .i64 0, .int .i64 0, .int .u32 0, .int .u64 0, .int .u32 0, .int .i64 0, .int .i64 0, .slice none 0 0, .slice none 0 0] 47 (0, 0)) := by rw [Below.heap_setCell _ _ _ _ (Ne.symm hgR)]; exact nR6
        have B7 : Hid (Below w.heap.size w (w6.setCell ⟨g, 5, none⟩ (.int .u64 at_))) := B6.out.setCell hgB _
        have HG := TW.hide hG
        have HRR := TW.hide hRR
        have ew : IntKind.u64.wrap at_ = at_ := by rw [IntKind.wrap_u64]; omega
        clear hroot hG hRR ho hd nG6 nR6 nS6
        go_wp2
        refine HV.out _ _ ?_
        clear HV KV
        generalize w6.setCell _ _ = X at HG HRR B7 ⊢
        have hG : X.heap[g]? = some (.cells #[.int .i64 d, .int .i64 y, .int .i64 n, .int .i64 2, .int .u32 0, .int .u64 at_, .int .u32 0, .int .i64 0, .int .i64 m, .slice sa sl sc, .slice ta tl tc] 47 (0, 0)) := by simpa using HG.out
        clear p0 p1 p2 p3 p4 p5 p6 p7 p8 p9 p10 f0 f1 f2 f3 f4 f5 f6 f7 f8 f9 f10 c0 c1 c2 c3 c4 c5
        obtain ⟨p0, p1, p2, p3, p4, p5, p6, p7, p8, p9, p10, f0, f1, f2, f3, f4, f5, f6, f7, f8, f9, f10⟩ := cells11 hG
        clear hG f0 f1 f2 f3 f4 f5 f6 f7 f8 f9 f10
        go_wp2_with (refine wpList_store_row (by rfl) 47 _ _ (by rfl) (w.heap.size + 1) #[.int .i64 d, .int .i64 y, .int .i64 n, .int .i64 2, .int .u32 0, .int .u64 at_, .int .u32 0, .int .i64 0, .int .i64 m, .slice sa sl sc, .slice ta tl tc] (by rfl) (by rfl) 47 _ HRR.out (by kernel_rfl) (by rfl) (by simp [Value.oneCell']) ?_)
        have hN := setRow_heap _ _ _ #[.int .i64 d, .int .i64 y, .int .i64 n, .int .i64 2, .int .u32 0, .int .u64 at_, .int .u32 0, .int .i64 0, .int .i64 m, .slice sa sl sc, .slice ta tl tc] _ _ HRR.out
        have hB := below_setRow (cs := #[.int .i64 d, .int .i64 y, .int .i64 n, .int .i64 2, .int .u32 0, .int .u64 at_, .int .u32 0, .int .i64 0, .int .i64 m, .slice sa sl sc, .slice ta tl tc]) B7.out (g := w.heap.size + 1) (by omega)
        generalize X.setRow _ _ = X9 at hN hB ⊢
        refine bodyPost_ret (v := .agg #[.int .i64 d, .int .i64 y, .int .i64 n, .int .i64 2, .int .u32 0, .int .u64 at_, .int .u32 0, .int .i64 0, .int .i64 m, .slice sa sl sc, .slice ta tl tc]) (results_cell_row (P := Try.prog) Try.results25 _ _ (w.heap.size + 1) 47 _ (0, 0) _ rfl hN Try.underlying47 rfl (by kernel_rfl)) rfl ⟨rfl, ?_⟩
        exact hB
  · have HK := TW.hide hK
    clear hK
    have gB : W.heap.size ≤ Y.heap.size := HT.out.size
    have TX : Hid (Below W.heap.size W (Y.alloc (.cells #[.int .i64 0, .int .i64 0, .int .i64 0, .int .i64 0, .int .u32 0, .int .u64 0, .int .u32 0, .int .i64 0, .int .i64 0, .slice none 0 0, .slice none 0 0] 47))) := HT.out.alloc gB _
    have NX := TW.hide (heap_alloc_new Y (.cells #[.int .i64 0, .int .i64 0, .int .i64 0, .int .i64 0, .int .u32 0, .int .u64 0, .int .u32 0, .int .i64 0, .int .i64 0, .slice none 0 0, .slice none 0 0] 47))
    go_simp
    refine HK.out _ _ TX.out (fun _ => trivial) ?_
    clear HK KX
    try simp only [Act.put, List.setIfInBounds_toArray, List.set_cons_zero, List.set_cons_succ, List.getElem_toArray, List.getElem_cons_zero, List.getElem_cons_succ]
    clear HT
    generalize Y.alloc (.cells #[.int .i64 0, .int .i64 0, .int .i64 0, .int .i64 0, .int .u32 0, .int .u64 0, .int .u32 0, .int .i64 0, .int .i64 0, .slice none 0 0, .slice none 0 0] 47) = X1 at *
    generalize Y.heap.size = g at *
    refine RG.wpL_step (i := 8) (by kernel_rfl) (by rfl) (by rfl) (fun KX hK => ?_)
    have HK := TW.hide hK
    clear hK
    go_simp
    refine (HL.out X1).mono ?_
    rintro e W1 ⟨rfl, hc⟩
    have T1 : Hid (Below W.heap.size W W1) := below_row TX.out hc TX.out.size
    have N1 := TW.hide (blk_keep NX.out hc)
    refine HK.out _ _ T1.out (fun _ => trivial) ?_
    clear HK KX
    try simp only [Act.put, List.setIfInBounds_toArray, List.set_cons_zero, List.set_cons_succ, List.getElem_toArray, List.getElem_cons_zero, List.getElem_cons_succ]
    clear hc TX NX
    refine RG.wpL_step (i := 11) (by kernel_rfl) (by rfl) (by rfl) (fun KX hK => ?_)
    have HK := TW.hide hK
    clear hK
    go_simp
    refine (HI.out W1).mono ?_
    rintro e W2 ⟨rfl, hc⟩
    have T2 : Hid (Below W.heap.size W W2) := below_row T1.out hc T1.out.size
    have N2 := TW.hide (blk_keep N1.out hc)
    refine HK.out _ _ T2.out (fun _ => trivial) ?_
    clear HK KX
    try simp only [Act.put, List.setIfInBounds_toArray, List.set_cons_zero, List.set_cons_succ, List.getElem_toArray, List.getElem_cons_zero, List.getElem_cons_succ]
    clear hc T1 N1
    refine RG.wpL_take (fuel := 1) (a' := ?Ac) [18] (by kernel_rfl) (by kernel_rfl) (fun _ _ _ _ _ h => h) T2.out (fun _ => trivial) ?rc ?_
    case rc =>
      refine RG.RunsIf.weak (v := .agg #[.int .i64 d, .int .i64 y, .int .i64 n, .int .i64 2, .int .u32 0, .int .u64 0, .int .u32 0, .int .i64 0, .int .i64 m, .slice sa sl sc, .slice ta tl tc]) (by rfl) (by rfl) (fun Z hT => ?_) ?_
      · go_simp
      simp only [Act.put, List.setIfInBounds_toArray, List.set_cons_zero, List.set_cons_succ, List.getElem_toArray, List.getElem_cons_zero, List.getElem_cons_succ]
      exact RG.RunsIf.nil
    have T5 : Hid (Below W.heap.size W (W2.setRow g #[.int .i64 d, .int .i64 y, .int .i64 n, .int .i64 2, .int .u32 0, .int .u64 0, .int .u32 0, .int .i64 0, .int .i64 m, .slice sa sl sc, .slice ta tl tc])) := below_setRow T2.out gB
    have N5 := TW.hide (setRow_heap _ _ _ #[.int .i64 d, .int .i64 y, .int .i64 n, .int .i64 2, .int .u32 0, .int .u64 0, .int .u32 0, .int .i64 0, .int .i64 m, .slice sa sl sc, .slice ta tl tc] _ _ N2.out)
    refine RG.wpL_step (i := 20) (by kernel_rfl) (by rfl) (by rfl) (fun KX hK => ?_)
    have HK := TW.hide hK
    clear hK
    refine wp_store_row 47 _ _ (by rfl) g #[.int .i64 d, .int .i64 y, .int .i64 n, .int .i64 2, .int .u32 0, .int .u64 0, .int .u32 0, .int .i64 0, .int .i64 m, .slice sa sl sc, .slice ta tl tc] (by rfl) (by rfl) 47 _ N2.out (by kernel_rfl) (by rfl) (by simp [Value.oneCell']) ?_
    try simp only [Act.put, List.setIfInBounds_toArray, List.set_cons_zero, List.set_cons_succ, List.getElem_toArray, List.getElem_cons_zero, List.getElem_cons_succ]
    refine HK.out _ _ T5.out (fun _ => trivial) ?_
    clear HK KX
    generalize W2.setRow g #[.int .i64 d, .int .i64 y, .int .i64 n, .int .i64 2, .int .u32 0, .int .u64 0, .int .u32 0, .int .i64 0, .int .i64 m, .slice sa sl sc, .slice ta tl tc] = Z1 at *
    refine RG.wpL_done (by kernel_rfl) ?_ _
    refine NoPanic.normal ?_
    have nS := blk_keep HN0.out T5.out
    have nR := blk_keep HN1.out T5.out
    obtain ⟨c0, c1, c2, c3, c4, c5⟩ := cells6 nS
    have hgl := blk_lt N5.out
    have hzl : w.heap.size + 1 < Z1.heap.size := blk_lt nR
    refine HQ.out _ _ ?_
    clear HQ KQ
    refine wp_seq_k fun KV hK => ?_
    have HV := TW.hide hK
    clear hK
    go_wp2_with fail
    refine (HR.out _).mono ?_
    rintro e w6 ⟨rfl, hb6⟩
    have nG6 := blk_keep N5.out hb6
    have nR6 := blk_keep nR hb6
    have nS6 := blk_keep nS hb6
    have B6 : Hid (Below w.heap.size w w6) := below_row (below_row HB.out T5.out (by omega)) hb6 (by omega)
    have hgB : w.heap.size ≤ g := by omega
    have hgR : g ≠ w.heap.size + 1 := by omega
    clear hb6 nS nR c0 c1 c2 c3 c4 c5 T5 N5 hgl hzl
    obtain ⟨c0, c1, c2, c3, c4, c5⟩ := cells6 nS6
    obtain ⟨p0, p1, p2, p3, p4, p5, p6, p7, p8, p9, p10, f0, f1, f2, f3, f4, f5, f6, f7, f8, f9, f10⟩ := cells11 nG6
    by_cases hroot : at_ = (n : Int)
    · have hbq : (at_ == (n : Int)) = true := by simp [hroot]
      have ho1 : 0 = of := by rw [ho.out, if_pos hroot]
      have hd1 : 1 = nd := by rw [hd.out, if_pos hroot]
      subst ho1 hd1
      have hG := blk_set (i := 7) (u := .int .i64 1) nG6
      have hRR : (w6.setCell ⟨g, 7, none⟩ (.int .i64 1)).heap[w.heap.size + 1]? = some (.cells #[.int .i64 0, .int .i64 0, .int .i64 0, .int .i64 0, .int .u32 0, .int .u64 0, .int .u32 0, .int .i64 0, .int .i64 0, .slice none 0 0, .slice none 0 0] 47 (0, 0)) := by rw [Below.heap_setCell _ _ _ _ (Ne.symm hgR)]; exact nR6
      have B7 : Hid (Below w.heap.size w (w6.setCell ⟨g, 7, none⟩ (.int .i64 1))) := B6.out.setCell hgB _
      have HG := TW.hide hG
      have HRR := TW.hide hRR
      have ew : IntKind.u64.wrap at_ = at_ := by rw [IntKind.wrap_u64]; omega
      clear hroot hG hRR ho hd nG6 nR6 nS6
      go_wp2
      refine HV.out _ _ ?_
      clear HV KV
      generalize w6.setCell _ _ = X at HG HRR B7 ⊢
      have hG : X.heap[g]? = some (.cells #[.int .i64 d, .int .i64 y, .int .i64 n, .int .i64 2, .int .u32 0, .int .u64 0, .int .u32 0, .int .i64 1, .int .i64 m, .slice sa sl sc, .slice ta tl tc] 47 (0, 0)) := by simpa using HG.out
      clear p0 p1 p2 p3 p4 p5 p6 p7 p8 p9 p10 f0 f1 f2 f3 f4 f5 f6 f7 f8 f9 f10 c0 c1 c2 c3 c4 c5
      obtain ⟨p0, p1, p2, p3, p4, p5, p6, p7, p8, p9, p10, f0, f1, f2, f3, f4, f5, f6, f7, f8, f9, f10⟩ := cells11 hG
      clear hG f0 f1 f2 f3 f4 f5 f6 f7 f8 f9 f10
      go_wp2_with (refine wpList_store_row (by rfl) 47 _ _ (by rfl) (w.heap.size + 1) #[.int .i64 d, .int .i64 y, .int .i64 n, .int .i64 2, .int .u32 0, .int .u64 0, .int .u32 0, .int .i64 1, .int .i64 m, .slice sa sl sc, .slice ta tl tc] (by rfl) (by rfl) 47 _ HRR.out (by kernel_rfl) (by rfl) (by simp [Value.oneCell']) ?_)
      have hN := setRow_heap _ _ _ #[.int .i64 d, .int .i64 y, .int .i64 n, .int .i64 2, .int .u32 0, .int .u64 0, .int .u32 0, .int .i64 1, .int .i64 m, .slice sa sl sc, .slice ta tl tc] _ _ HRR.out
      have hB := below_setRow (cs := #[.int .i64 d, .int .i64 y, .int .i64 n, .int .i64 2, .int .u32 0, .int .u64 0, .int .u32 0, .int .i64 1, .int .i64 m, .slice sa sl sc, .slice ta tl tc]) B7.out (g := w.heap.size + 1) (by omega)
      generalize X.setRow _ _ = X9 at hN hB ⊢
      refine bodyPost_ret (v := .agg #[.int .i64 d, .int .i64 y, .int .i64 n, .int .i64 2, .int .u32 0, .int .u64 0, .int .u32 0, .int .i64 1, .int .i64 m, .slice sa sl sc, .slice ta tl tc]) (results_cell_row (P := Try.prog) Try.results25 _ _ (w.heap.size + 1) 47 _ (0, 0) _ rfl hN Try.underlying47 rfl (by kernel_rfl)) rfl ⟨rfl, ?_⟩
      exact hB
    · have hbq : (at_ == (n : Int)) = false := by simp [hroot]
      have ho1 : at_ = of := by rw [ho.out, if_neg hroot]
      have hd1 : 0 = nd := by rw [hd.out, if_neg hroot]
      subst ho1 hd1
      have hG := blk_set (i := 5) (u := .int .u64 at_) nG6
      have hRR : (w6.setCell ⟨g, 5, none⟩ (.int .u64 at_)).heap[w.heap.size + 1]? = some (.cells #[.int .i64 0, .int .i64 0, .int .i64 0, .int .i64 0, .int .u32 0, .int .u64 0, .int .u32 0, .int .i64 0, .int .i64 0, .slice none 0 0, .slice none 0 0] 47 (0, 0)) := by rw [Below.heap_setCell _ _ _ _ (Ne.symm hgR)]; exact nR6
      have B7 : Hid (Below w.heap.size w (w6.setCell ⟨g, 5, none⟩ (.int .u64 at_))) := B6.out.setCell hgB _
      have HG := TW.hide hG
      have HRR := TW.hide hRR
      have ew : IntKind.u64.wrap at_ = at_ := by rw [IntKind.wrap_u64]; omega
      clear hroot hG hRR ho hd nG6 nR6 nS6
      go_wp2
      refine HV.out _ _ ?_
      clear HV KV
      generalize w6.setCell _ _ = X at HG HRR B7 ⊢
      have hG : X.heap[g]? = some (.cells #[.int .i64 d, .int .i64 y, .int .i64 n, .int .i64 2, .int .u32 0, .int .u64 at_, .int .u32 0, .int .i64 0, .int .i64 m, .slice sa sl sc, .slice ta tl tc] 47 (0, 0)) := by simpa using HG.out
      clear p0 p1 p2 p3 p4 p5 p6 p7 p8 p9 p10 f0 f1 f2 f3 f4 f5 f6 f7 f8 f9 f10 c0 c1 c2 c3 c4 c5
      obtain ⟨p0, p1, p2, p3, p4, p5, p6, p7, p8, p9, p10, f0, f1, f2, f3, f4, f5, f6, f7, f8, f9, f10⟩ := cells11 hG
      clear hG f0 f1 f2 f3 f4 f5 f6 f7 f8 f9 f10
      go_wp2_with (refine wpList_store_row (by rfl) 47 _ _ (by rfl) (w.heap.size + 1) #[.int .i64 d, .int .i64 y, .int .i64 n, .int .i64 2, .int .u32 0, .int .u64 at_, .int .u32 0, .int .i64 0, .int .i64 m, .slice sa sl sc, .slice ta tl tc] (by rfl) (by rfl) 47 _ HRR.out (by kernel_rfl) (by rfl) (by simp [Value.oneCell']) ?_)
      have hN := setRow_heap _ _ _ #[.int .i64 d, .int .i64 y, .int .i64 n, .int .i64 2, .int .u32 0, .int .u64 at_, .int .u32 0, .int .i64 0, .int .i64 m, .slice sa sl sc, .slice ta tl tc] _ _ HRR.out
      have hB := below_setRow (cs := #[.int .i64 d, .int .i64 y, .int .i64 n, .int .i64 2, .int .u32 0, .int .u64 at_, .int .u32 0, .int .i64 0, .int .i64 m, .slice sa sl sc, .slice ta tl tc]) B7.out (g := w.heap.size + 1) (by omega)
      generalize X.setRow _ _ = X9 at hN hB ⊢
      refine bodyPost_ret (v := .agg #[.int .i64 d, .int .i64 y, .int .i64 n, .int .i64 2, .int .u32 0, .int .u64 at_, .int .u32 0, .int .i64 0, .int .i64 m, .slice sa sl sc, .slice ta tl tc]) (results_cell_row (P := Try.prog) Try.results25 _ _ (w.heap.size + 1) 47 _ (0, 0) _ rfl hN Try.underlying47 rfl (by kernel_rfl)) rfl ⟨rfl, ?_⟩
      exact hB
end LW
end Go.Proofs.Ythbakhgfnfdahaa
