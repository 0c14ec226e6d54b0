/-
  What the calls of the document and of the program for a node's parameters give.
-/
import Derived.Test.YthbakhgfnfdahaaStrandP
namespace Go.Proofs.Ythbakhgfnfdahaa
open Go.RowKit
set_option linter.unusedVariables false
set_option linter.unusedSimpArgs false
namespace LW
open Words
set_option maxHeartbeats 2000000 in
theorem rparams_ (k d y at_ : Int) (sa ta : Option Addr) (sl sc tl tc : Nat) (w : World) (h0 : 0 ≤ at_) (h1 : at_ ≤ 8) : Calls Try.prog 27 #[.int .i64 k, .int .i64 d, .int .i64 y, .int .i64 at_, .slice sa sl sc, .slice ta tl tc] w fun e w' => e = .returned (.agg (pc d y (nl k) 2 0 (ofs k at_) 0 (ndp k at_) (mo k) (.slice sa sl sc) (.slice ta tl tc))) ∧ Below w.heap.size w w' := by
  have HC := TW.hide (fun W => rcount k W)
  have HM := TW.hide (fun W => rmost k W)
  have ho : Hid (ofs k at_ = if at_ = (nl k : Int) then 0 else at_) := rfl
  have hd : Hid (ndp k at_ = if at_ = (nl k : Int) then 1 else 0) := rfl
  generalize ofs k at_ = of at *
  generalize ndp k at_ = nd at *
  generalize nl k = n at *
  generalize mo k = m at *
  unfold pc
  have ew : IntKind.u64.wrap at_ = at_ := by rw [IntKind.wrap_u64]; omega
  go_enter Try.func27, Try.ntmps27
  refine wp_seq_k fun K hK => ?_
  have HK := TW.hide hK
  clear hK
  go_wp2
  refine HK.out _ _ ?_
  clear HK K
  have n0 := heap_alloc_new w (.cells #[.int .i64 0, .int .i64 0, .int .i64 0, .int .i64 0, .int .u32 0, .int .u64 0, .int .u32 0, .int .i64 0, .int .i64 0, .slice none 0 0, .slice none 0 0] 47)
  have hb := (Below.refl w.heap.size w).alloc (Nat.le_refl _) (.cells #[.int .i64 0, .int .i64 0, .int .i64 0, .int .i64 0, .int .u32 0, .int .u64 0, .int .u32 0, .int .i64 0, .int .i64 0, .slice none 0 0, .slice none 0 0] 47)
  generalize w.alloc _ = W at n0 hb ⊢
  have hE := blk_lt n0
  have n1 := blk_alloc (o' := .cells #[.int .i64 0, .int .i64 0, .int .i64 0, .int .i64 0, .int .u32 0, .int .u64 0, .int .u32 0, .int .i64 0, .int .i64 0, .slice none 0 0, .slice none 0 0] 47) n0
  have n2 := heap_alloc_new W (.cells #[.int .i64 0, .int .i64 0, .int .i64 0, .int .i64 0, .int .u32 0, .int .u64 0, .int .u32 0, .int .i64 0, .int .i64 0, .slice none 0 0, .slice none 0 0] 47)
  have hb2 := hb.alloc (by omega) (.cells #[.int .i64 0, .int .i64 0, .int .i64 0, .int .i64 0, .int .u32 0, .int .u64 0, .int .u32 0, .int .i64 0, .int .i64 0, .slice none 0 0, .slice none 0 0] 47)
  have HN1 := TW.hide n1
  have HN2 := TW.hide n2
  have HB2 := TW.hide hb2
  clear n0 n1 n2 hb hb2
  refine wp_seq_k fun K hK => ?_
  have HK := TW.hide hK
  clear hK
  go_wp2_with fail
  refine (HC.out _).mono ?_
  rintro e w1 ⟨rfl, rfl⟩
  go_wp2_with fail
  refine (HM.out _).mono ?_
  rintro e w1 ⟨rfl, rfl⟩
  go_wp2_with (refine wpList_store_row (by rfl) 47 _ _ (by rfl) W.heap.size #[.int .i64 d, .int .i64 y, .int .i64 n, .int .i64 2, .int .u32 0, .int .u64 at_, .int .u32 0, .int .i64 0, .int .i64 m, .slice sa sl sc, .slice ta tl tc] (by rfl) (by rfl) 47 _ HN2.out (by kernel_rfl) (by rfl) (by simp [Value.oneCell']) ?_)
  refine HK.out _ _ ?_
  clear HK K
  have hN := setRow_heap _ _ _ #[.int .i64 d, .int .i64 y, .int .i64 n, .int .i64 2, .int .u32 0, .int .u64 at_, .int .u32 0, .int .i64 0, .int .i64 m, .slice sa sl sc, .slice ta tl tc] _ _ HN2.out
  have hR : ((W.alloc (.cells #[.int .i64 0, .int .i64 0, .int .i64 0, .int .i64 0, .int .u32 0, .int .u64 0, .int .u32 0, .int .i64 0, .int .i64 0, .slice none 0 0, .slice none 0 0] 47)).setRow W.heap.size #[.int .i64 d, .int .i64 y, .int .i64 n, .int .i64 2, .int .u32 0, .int .u64 at_, .int .u32 0, .int .i64 0, .int .i64 m, .slice sa sl sc, .slice ta tl tc]).heap[w.heap.size]? = some (.cells #[.int .i64 0, .int .i64 0, .int .i64 0, .int .i64 0, .int .u32 0, .int .u64 0, .int .u32 0, .int .i64 0, .int .i64 0, .slice none 0 0, .slice none 0 0] 47 (0, 0)) := by rw [setRow_other _ _ _ _ (by omega)]; exact HN1.out
  have hB := below_setRow (cs := #[.int .i64 d, .int .i64 y, .int .i64 n, .int .i64 2, .int .u32 0, .int .u64 at_, .int .u32 0, .int .i64 0, .int .i64 m, .slice sa sl sc, .slice ta tl tc]) HB2.out (g := W.heap.size) (by omega)
  generalize hgg : W.heap.size = g at hN hR hB hE ⊢
  generalize (W.alloc _).setRow _ _ = X at hN hR hB ⊢
  clear hgg HN1 HN2 HB2
  have HB := TW.hide hB
  have HR := TW.hide hR
  have HN := TW.hide hN
  clear hB hR
  obtain ⟨p0, p1, p2, p3, p4, p5, p6, p7, p8, p9, p10, f0, f1, f2, f3, f4, f5, f6, f7, f8, f9, f10⟩ := cells11 hN
  clear hN
  refine wp_seq_k fun K hK => ?_
  have HK := TW.hide hK
  clear hK
  go_wp2_with fail
  refine (HC.out _).mono ?_
  rintro e w1 ⟨rfl, rfl⟩
  have hgB : w.heap.size ≤ g := by omega
  have hgR : g ≠ w.heap.size := by omega
  by_cases hroot : at_ = (n : Int)
  · have hbq : (at_ == (n : Int)) = true := by simp [hroot]
    have ho1 : 0 = of := by rw [ho.out, if_pos hroot]
    have hd1 : 1 = nd := by rw [hd.out, if_pos hroot]
    subst ho1 hd1
    have hG := blk_set (i := 7) (u := .int .i64 1) (blk_set (i := 5) (u := .int .u64 0) HN.out)
    have hRR : ((X.setCell ⟨g, 5, none⟩ (.int .u64 0)).setCell ⟨g, 7, none⟩ (.int .i64 1)).heap[w.heap.size]? = some (.cells #[.int .i64 0, .int .i64 0, .int .i64 0, .int .i64 0, .int .u32 0, .int .u64 0, .int .u32 0, .int .i64 0, .int .i64 0, .slice none 0 0, .slice none 0 0] 47 (0, 0)) := by rw [Below.heap_setCell _ _ _ _ (Ne.symm hgR), Below.heap_setCell _ _ _ _ (Ne.symm hgR)]; exact HR.out
    have B7 : Hid (Below w.heap.size w ((X.setCell ⟨g, 5, none⟩ (.int .u64 0)).setCell ⟨g, 7, none⟩ (.int .i64 1))) := (HB.out.setCell hgB _).setCell hgB _
    have HG := TW.hide hG
    have HRR := TW.hide hRR
    clear hroot hG hRR ho hd HN HR HB
    go_wp2
    refine HK.out _ _ ?_
    clear HK K
    generalize ((X.setCell ⟨g, 5, none⟩ (.int .u64 0)).setCell ⟨g, 7, none⟩ (.int .i64 1)) = X2 at HG HRR B7 ⊢
    have hG : X2.heap[g]? = some (.cells #[.int .i64 d, .int .i64 y, .int .i64 n, .int .i64 2, .int .u32 0, .int .u64 0, .int .u32 0, .int .i64 1, .int .i64 m, .slice sa sl sc, .slice ta tl tc] 47 (0, 0)) := by simpa using HG.out
    clear p0 p1 p2 p3 p4 p5 p6 p7 p8 p9 p10 f0 f1 f2 f3 f4 f5 f6 f7 f8 f9 f10
    obtain ⟨p0, p1, p2, p3, p4, p5, p6, p7, p8, p9, p10, f0, f1, f2, f3, f4, f5, f6, f7, f8, f9, f10⟩ := cells11 hG
    clear hG f0 f1 f2 f3 f4 f5 f6 f7 f8 f9 f10
    go_wp2_with (refine wpList_store_row (by rfl) 47 _ _ (by rfl) w.heap.size #[.int .i64 d, .int .i64 y, .int .i64 n, .int .i64 2, .int .u32 0, .int .u64 0, .int .u32 0, .int .i64 1, .int .i64 m, .slice sa sl sc, .slice ta tl tc] (by rfl) (by rfl) 47 _ HRR.out (by kernel_rfl) (by rfl) (by simp [Value.oneCell']) ?_)
    have hN := setRow_heap _ _ _ #[.int .i64 d, .int .i64 y, .int .i64 n, .int .i64 2, .int .u32 0, .int .u64 0, .int .u32 0, .int .i64 1, .int .i64 m, .slice sa sl sc, .slice ta tl tc] _ _ HRR.out
    have hB := below_setRow (cs := #[.int .i64 d, .int .i64 y, .int .i64 n, .int .i64 2, .int .u32 0, .int .u64 0, .int .u32 0, .int .i64 1, .int .i64 m, .slice sa sl sc, .slice ta tl tc]) B7.out (g := w.heap.size) (by omega)
    generalize X2.setRow _ _ = X9 at hN hB ⊢
    refine bodyPost_ret (v := .agg #[.int .i64 d, .int .i64 y, .int .i64 n, .int .i64 2, .int .u32 0, .int .u64 0, .int .u32 0, .int .i64 1, .int .i64 m, .slice sa sl sc, .slice ta tl tc]) (results_cell_row (P := Try.prog) Try.results27 _ _ w.heap.size 47 _ (0, 0) _ rfl hN Try.underlying47 rfl (by kernel_rfl)) rfl ⟨rfl, ?_⟩
    exact hB
  · have hbq : (at_ == (n : Int)) = false := by simp [hroot]
    have ho1 : at_ = of := by rw [ho.out, if_neg hroot]
    have hd1 : 0 = nd := by rw [hd.out, if_neg hroot]
    subst ho1 hd1
    have hG := HN.out
    have hRR := HR.out
    have B7 := TW.hide HB.out
    have HG := TW.hide hG
    have HRR := TW.hide hRR
    clear hroot hG hRR ho hd HN HR HB
    go_wp2
    refine HK.out _ _ ?_
    clear HK K
    have hG : X.heap[g]? = some (.cells #[.int .i64 d, .int .i64 y, .int .i64 n, .int .i64 2, .int .u32 0, .int .u64 at_, .int .u32 0, .int .i64 0, .int .i64 m, .slice sa sl sc, .slice ta tl tc] 47 (0, 0)) := by simpa using HG.out
    clear p0 p1 p2 p3 p4 p5 p6 p7 p8 p9 p10 f0 f1 f2 f3 f4 f5 f6 f7 f8 f9 f10
    obtain ⟨p0, p1, p2, p3, p4, p5, p6, p7, p8, p9, p10, f0, f1, f2, f3, f4, f5, f6, f7, f8, f9, f10⟩ := cells11 hG
    clear hG f0 f1 f2 f3 f4 f5 f6 f7 f8 f9 f10
    go_wp2_with (refine wpList_store_row (by rfl) 47 _ _ (by rfl) w.heap.size #[.int .i64 d, .int .i64 y, .int .i64 n, .int .i64 2, .int .u32 0, .int .u64 at_, .int .u32 0, .int .i64 0, .int .i64 m, .slice sa sl sc, .slice ta tl tc] (by rfl) (by rfl) 47 _ HRR.out (by kernel_rfl) (by rfl) (by simp [Value.oneCell']) ?_)
    have hN := setRow_heap _ _ _ #[.int .i64 d, .int .i64 y, .int .i64 n, .int .i64 2, .int .u32 0, .int .u64 at_, .int .u32 0, .int .i64 0, .int .i64 m, .slice sa sl sc, .slice ta tl tc] _ _ HRR.out
    have hB := below_setRow (cs := #[.int .i64 d, .int .i64 y, .int .i64 n, .int .i64 2, .int .u32 0, .int .u64 at_, .int .u32 0, .int .i64 0, .int .i64 m, .slice sa sl sc, .slice ta tl tc]) B7.out (g := w.heap.size) (by omega)
    generalize X.setRow _ _ = X9 at hN hB ⊢
    refine bodyPost_ret (v := .agg #[.int .i64 d, .int .i64 y, .int .i64 n, .int .i64 2, .int .u32 0, .int .u64 at_, .int .u32 0, .int .i64 0, .int .i64 m, .slice sa sl sc, .slice ta tl tc]) (results_cell_row (P := Try.prog) Try.results27 _ _ w.heap.size 47 _ (0, 0) _ rfl hN Try.underlying47 rfl (by kernel_rfl)) rfl ⟨rfl, ?_⟩
    exact hB
end LW
end Go.Proofs.Ythbakhgfnfdahaa
