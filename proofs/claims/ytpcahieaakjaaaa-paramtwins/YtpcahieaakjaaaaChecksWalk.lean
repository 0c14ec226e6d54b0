/-
  What the law ParamChecks does: Check, Normal and Same of the program answer as the document's.
-/
import Derived.Test.YtpcahieaakjaaaaUnif
import Derived.Test.YtpcahieaakjaaaaAlike
namespace Go.Proofs.Ytpcahieaakjaaaa
open Go.RowKit
set_option linter.unusedVariables false
set_option linter.unusedSimpArgs false
namespace LW
open Words
attribute [local go_sem ↓] Go.wp_at_zero Go.wp_at_succ
theorem exec_load_row' {P : Program} {o : Oper} {a : Act} {w : World} (ty : TypeId) (x : Operand) (ho : o.op = .load ty x) (g : Nat) (hx : a.eval x = .pointer (some ⟨g, 0, none⟩)) (t : TypeId) (cs : Array Value) (fr : Nat × Nat) (d : TypeDesc)
    (hg : w.heap[g]? = some (.cells cs t fr)) (hu : P.underlying ty = some d) (hd : (match d with | .struct _ | .array _ _ => true | _ => false) = true) (hi : (P.info? ty).map (·.size) = some cs.size) :
    (execOp a.eval o).run P w = .ok (.value (.agg cs)) w := exec_load_row ty x ho g hx t cs fr d hg hu hd hi
theorem nS_le (E : Int) (s : List Int) (h : s.length ≤ 140737488351232) : (nS E s).length ≤ 140737488351232 := by
  unfold nS
  split
  · exact Nat.le_trans (tr_le s) h
  · simp
theorem nS_byt (E : Int) (s : List Int) (h : Byt s) : Byt (nS E s) := by
  unfold nS
  split
  · exact Byt.tr h
  · exact Byt.nil
set_option maxRecDepth 100000 in
set_option maxHeartbeats 8000000 in
theorem checksGen (kd E e2 : Int) (b1 : Bool) (p q P : Pm) (sa ta sa' ta' : Option Addr) (sc tc sc' tc' : Nat) (s t s' t' S T : List Int) (w : World)
    (bS : Byt S) (bT : Byt T) (lS : S.length ≤ 140737488351232) (lT : T.length ≤ 140737488351232)
    (HC : Hid (∀ W, Below w.heap.size w W → Calls Try.prog 10 #[.agg (pcP p (.slice sa s.length sc) (.slice ta t.length tc))] W fun e w' => ∃ a c b d, e = .returned (.agg (pcP p (.slice a s.length c) (.slice b t.length d))) ∧ Pa w' a c s ∧ Pa w' b d t ∧ Below W.heap.size W w'))
    (HD : Hid (∀ W, Below w.heap.size w W → Calls Try.prog 10 #[.agg (pcP q (.slice sa' s'.length sc') (.slice ta' t'.length tc'))] W fun e w' => ∃ a c b d, e = .returned (.agg (pcP q (.slice a s'.length c) (.slice b t'.length d))) ∧ Pa w' a c s' ∧ Pa w' b d t' ∧ Below W.heap.size W w'))
    (H16 : Hid (∀ a c b d W, Calls Try.prog 9 #[.int .i64 kd, .agg (pcP p (.slice a s.length c) (.slice b t.length d))] W fun e w' => e = .returned (.int .i64 E) ∧ Below W.heap.size W w'))
    (H18 : Hid (∀ W, Calls Try.prog 11 #[.int .i64 kd, .agg (pcP p (.slice sa s.length sc) (.slice ta t.length tc))] W fun e w' => e = .returned (.int .i64 E) ∧ Below W.heap.size W w'))
    (H19 : Hid (∀ a c b d W, Pa W a c s → Pa W b d t → Calls Try.prog 12 #[.int .i64 kd, .agg (pcP p (.slice a s.length c) (.slice b t.length d))] W fun e w' => ∃ a c b d, e = .returned (.tuple #[.agg (pcP P (.slice a S.length c) (.slice b T.length d)), .int .i64 E]) ∧ Pa w' a c S ∧ Pa w' b d T ∧ Below W.heap.size W w'))
    (H20 : Hid (∀ W, Below w.heap.size w W → Calls Try.prog 13 #[.int .i64 kd, .agg (pcP p (.slice sa s.length sc) (.slice ta t.length tc))] W fun e w' => ∃ a c b d, e = .returned (.tuple #[.agg (pcP P (.slice a S.length c) (.slice b T.length d)), .int .i64 E]) ∧ Pa w' a c S ∧ Pa w' b d T ∧ Below W.heap.size W w'))
    (H15 : Hid (∀ a c b d a' c' b' d' W, Pa W a c S → Pa W b d T → Pa W a' c' S → Pa W b' d' T → Calls Try.prog 14 #[.agg (pcP P (.slice a S.length c) (.slice b T.length d)), .agg (pcP P (.slice a' S.length c') (.slice b' T.length d'))] W fun e w' => e = .returned (.bool true) ∧ Below W.heap.size W w'))
    (H21 : Hid (∀ a c b d a' c' b' d' W, Pa W a c s → Pa W b d t → Pa W a' c' s' → Pa W b' d' t' → Calls Try.prog 15 #[.int .i64 kd, .agg (pcP p (.slice a s.length c) (.slice b t.length d)), .agg (pcP q (.slice a' s'.length c') (.slice b' t'.length d'))] W fun e w' => e = .returned (.tuple #[.bool b1, .int .i64 e2]) ∧ Below W.heap.size W w'))
    (H22 : Hid (∀ W, Below w.heap.size w W → Calls Try.prog 16 #[.int .i64 kd, .agg (pcP p (.slice sa s.length sc) (.slice ta t.length tc)), .agg (pcP q (.slice sa' s'.length sc') (.slice ta' t'.length tc'))] W fun e w' => e = .returned (.tuple #[.bool b1, .int .i64 e2]) ∧ Below W.heap.size W w')) :
    Calls Try.prog 3 #[.int .i64 kd, .agg (pcP p (.slice sa s.length sc) (.slice ta t.length tc)), .agg (pcP q (.slice sa' s'.length sc') (.slice ta' t'.length tc'))] w fun e w' => e = .returned (.bool true) ∧ Below w.heap.size w w' := by
  have hb := (((Below.refl w.heap.size w).alloc (Nat.le_refl _) (.cells (pcP p (.slice sa s.length sc) (.slice ta t.length tc)) 26)).alloc (by simp; try omega) (.cells (pcP q (.slice sa' s'.length sc') (.slice ta' t'.length tc')) 26))
  have n0 := (blk_alloc (o' := .cells (pcP q (.slice sa' s'.length sc') (.slice ta' t'.length tc')) 26) (heap_new w (.cells (pcP p (.slice sa s.length sc) (.slice ta t.length tc)) 26)))
  have n1 := (heap_new (w.alloc (.cells (pcP p (.slice sa s.length sc) (.slice ta t.length tc)) 26)) (.cells (pcP q (.slice sa' s'.length sc') (.slice ta' t'.length tc')) 26))
  rw [show (w.alloc (.cells (pcP p (.slice sa s.length sc) (.slice ta t.length tc)) 26)).heap.size = w.heap.size + 1 by simp] at n1
  go_enter Try.func3, Try.ntmps3
  refine wp_seq_k fun K hK => ?_
  have HK := TW.hide hK
  clear hK
  go_wp2
  refine HK.out _ _ ?_
  clear HK K
  change Code.wp _ _ _ _ ((w.alloc (.cells (pcP p (.slice sa s.length sc) (.slice ta t.length tc)) 26)).alloc (.cells (pcP q (.slice sa' s'.length sc') (.slice ta' t'.length tc')) 26))
  generalize hWW : (w.alloc (.cells (pcP p (.slice sa s.length sc) (.slice ta t.length tc)) 26)).alloc (.cells (pcP q (.slice sa' s'.length sc') (.slice ta' t'.length tc')) 26) = W at hb n0 n1 ⊢
  have hW : W.heap.size = w.heap.size + 1 + 1 := by rw [← hWW]; simp
  clear hWW
  generalize hB : w.heap.size = B at *
  have HT0 : Hid (W.drew.heap[B]? = some (.cells (pcP p (.slice sa s.length sc) (.slice ta t.length tc)) 26 (0, 0)) ∧ W.drew.heap[B + 1]? = some (.cells (pcP q (.slice sa' s'.length sc') (.slice ta' t'.length tc')) 26 (0, 0)) ∧ Below B w W.drew) := ⟨n0, n1, below_drewN hb 1⟩
  clear n0 n1 hb hW bS bT lS lT
  have hEE : (E != E) = false := by simp
  have h22 : (e2 == e2) = true := by simp
  have hbb : (b1 == b1) = true := by simp
  refine wp_seq_k fun KK hKK => ?_
  have HKK := TW.hide hKK
  clear hKK
  refine wp_seq ?_
  refine wp_region_noPanic ?_
  refine RG.wp_region_L (fun Z => True) (fun Z => Z.heap[B]? = some (.cells (pcP p (.slice sa s.length sc) (.slice ta t.length tc)) 26 (0, 0)) ∧ Z.heap[B + 1]? = some (.cells (pcP q (.slice sa' s'.length sc') (.slice ta' t'.length tc')) 26 (0, 0)) ∧ Below B w Z) [] (by kernel_rfl) ?_
  generalize W.drew = Y0 at *
  refine RG.wpL_take (fuel := 4) (a' := ?A) [0, 1, 4, 5] (by kernel_rfl) (by kernel_rfl) (fun _ _ _ _ _ h => h) HT0.out (fun _ => trivial) ?r ?_
  case r =>
    refine RG.RunsIf.weak (v := ?_) (by rfl) (by rfl) (fun Z hT => ?_) ?_
    rotate_left
    · skip
      go_simp
      rfl
    simp only [Act.put, List.setIfInBounds_toArray, List.set_cons_zero, List.set_cons_succ, List.getElem_toArray, List.getElem_cons_zero, List.getElem_cons_succ]
    refine RG.RunsIf.weak (by rfl) (by rfl) (fun Z hT => exec_load_row 26 _ (by rfl) (B) (by rfl) 26 (pcP p (.slice sa s.length sc) (.slice ta t.length tc)) (0, 0) _ hT.1 Try.underlying26 rfl (info31 _ _ _)) ?_
    simp only [Act.put, List.setIfInBounds_toArray, List.set_cons_zero, List.set_cons_succ, List.getElem_toArray, List.getElem_cons_zero, List.getElem_cons_succ]
    refine RG.RunsIf.weak (v := ?_) (by rfl) (by rfl) (fun Z hT => ?_) ?_
    rotate_left
    · skip
      go_simp
      rfl
    simp only [Act.put, List.setIfInBounds_toArray, List.set_cons_zero, List.set_cons_succ, List.getElem_toArray, List.getElem_cons_zero, List.getElem_cons_succ]
    refine RG.RunsIf.weak (by rfl) (by rfl) (fun Z hT => exec_load_row 26 _ (by rfl) (B) (by rfl) 26 (pcP p (.slice sa s.length sc) (.slice ta t.length tc)) (0, 0) _ hT.1 Try.underlying26 rfl (info31 _ _ _)) ?_
    simp only [Act.put, List.setIfInBounds_toArray, List.set_cons_zero, List.set_cons_succ, List.getElem_toArray, List.getElem_cons_zero, List.getElem_cons_succ]
    exact RG.RunsIf.nil
  refine RG.wpL_step (i := 2) (by kernel_rfl) (by rfl) (by rfl) (fun K hK => ?_)
  have HK := TW.hide hK
  clear hK
  go_simp
  refine (HC.out Y0 HT0.out.2.2).mono ?_
  rintro e w1 ⟨a1, c1, b1', d1, rfl, pa1, pb1, hb⟩
  have HT1 : Hid (w1.heap[B]? = some (.cells (pcP p (.slice sa s.length sc) (.slice ta t.length tc)) 26 (0, 0)) ∧ w1.heap[B + 1]? = some (.cells (pcP q (.slice sa' s'.length sc') (.slice ta' t'.length tc')) 26 (0, 0)) ∧ Below B w w1) := ⟨blk_keep HT0.out.1 hb, blk_keep HT0.out.2.1 hb, below_row HT0.out.2.2 hb (by have := blk_lt HT0.out.2.1; omega)⟩
  refine HK.out _ _ HT1.out (fun _ => trivial) ?_
  clear HK K HT0
  clear hb pa1 pb1
  refine RG.wpL_step (i := 3) (by kernel_rfl) (by rfl) (by rfl) (fun K hK => ?_)
  have HK := TW.hide hK
  clear hK
  go_simp
  refine (H16.out a1 c1 b1' d1 w1).mono ?_
  rintro e w2 ⟨rfl, hb⟩
  have HT2 : Hid (w2.heap[B]? = some (.cells (pcP p (.slice sa s.length sc) (.slice ta t.length tc)) 26 (0, 0)) ∧ w2.heap[B + 1]? = some (.cells (pcP q (.slice sa' s'.length sc') (.slice ta' t'.length tc')) 26 (0, 0)) ∧ Below B w w2) := ⟨blk_keep HT1.out.1 hb, blk_keep HT1.out.2.1 hb, below_row HT1.out.2.2 hb (by have := blk_lt HT1.out.2.1; omega)⟩
  refine HK.out _ _ HT2.out (fun _ => trivial) ?_
  clear HK K HT1 hb 
  refine RG.wpL_step (i := 6) (by kernel_rfl) (by rfl) (by rfl) (fun K hK => ?_)
  have HK := TW.hide hK
  clear hK
  go_simp
  refine (H18.out w2).mono ?_
  rintro e w3 ⟨rfl, hb⟩
  have HT3 : Hid (w3.heap[B]? = some (.cells (pcP p (.slice sa s.length sc) (.slice ta t.length tc)) 26 (0, 0)) ∧ w3.heap[B + 1]? = some (.cells (pcP q (.slice sa' s'.length sc') (.slice ta' t'.length tc')) 26 (0, 0)) ∧ Below B w w3) := ⟨blk_keep HT2.out.1 hb, blk_keep HT2.out.2.1 hb, below_row HT2.out.2.2 hb (by have := blk_lt HT2.out.2.1; omega)⟩
  refine HK.out _ _ HT3.out (fun _ => trivial) ?_
  clear HK K HT2 hb 
  refine RG.wpL_step (i := 7) (by kernel_rfl) (by rfl) (by rfl) (fun K hK => ?_)
  have HK := TW.hide hK
  clear hK
  go_simp
  refine HK.out _ _ HT3.out (fun _ => trivial) ?_
  clear HK K
  refine RG.wpL_done (by kernel_rfl) ?_ _
  refine NoPanic.normal ?_
  go_wp2
  refine HKK.out _ _ ?_
  clear HKK KK
  refine wp_seq_k fun KK hK => ?_
  have HK := TW.hide hK
  clear hK
  go_wp2_with (refine wpList_load_row (by rfl) 26 _ (by rfl) (B) (by rfl) 26 (pcP p (.slice sa s.length sc) (.slice ta t.length tc)) (0, 0) _ HT3.out.1 Try.underlying26 rfl (info31 _ _ _) ?_)
  refine (HC.out w3 HT3.out.2.2).mono ?_
  rintro e w4 ⟨a1, c1, b1', d1, rfl, pa1, pb1, hb⟩
  have HT4 : Hid (w4.heap[B]? = some (.cells (pcP p (.slice sa s.length sc) (.slice ta t.length tc)) 26 (0, 0)) ∧ w4.heap[B + 1]? = some (.cells (pcP q (.slice sa' s'.length sc') (.slice ta' t'.length tc')) 26 (0, 0)) ∧ Below B w w4) := ⟨blk_keep HT3.out.1 hb, blk_keep HT3.out.2.1 hb, below_row HT3.out.2.2 hb (by have := blk_lt HT3.out.2.1; omega)⟩
  have PA := TW.hide pa1
  have PB := TW.hide pb1
  clear HT3 hb pa1 pb1
  go_wp2_with fail
  refine (H19.out _ _ _ _ w4 PA.out PB.out).mono ?_
  rintro e w5 ⟨a2, c2, b2, d2, rfl, pa2, pb2, hb⟩
  have HT5 : Hid (w5.heap[B]? = some (.cells (pcP p (.slice sa s.length sc) (.slice ta t.length tc)) 26 (0, 0)) ∧ w5.heap[B + 1]? = some (.cells (pcP q (.slice sa' s'.length sc') (.slice ta' t'.length tc')) 26 (0, 0)) ∧ Below B w w5) := ⟨blk_keep HT4.out.1 hb, blk_keep HT4.out.2.1 hb, below_row HT4.out.2.2 hb (by have := blk_lt HT4.out.2.1; omega)⟩
  clear HT4 hb PA PB
  go_wp2_with (first | (refine wpList_store_row (by rfl) 26 _ _ (by rfl) (w5.heap.size) (pcP P (.slice a2 S.length c2) (.slice b2 T.length d2)) (by rfl) (by rfl) 26 _ (heap_new w5 _) (info31 _ _ _) (pc_size Pm.zero _ _ _ _ _) (pc_one _ _ _ _ _ _ _) ?_))
  have nx := setRow_heap _ _ _ (pcP P (.slice a2 S.length c2) (.slice b2 T.length d2)) _ _ (heap_new w5 (.cells #[.int .i64 0, .int .i64 0, .int .i64 0, .int .i64 0, .int .u32 0, .int .u64 0, .int .u32 0, .int .i64 0, .int .i64 0, .slice none 0 0, .slice none 0 0] 26))
  have bx := below_setRow (cs := (pcP P (.slice a2 S.length c2) (.slice b2 T.length d2))) ((Below.refl w5.heap.size w5).alloc (Nat.le_refl _) (.cells #[.int .i64 0, .int .i64 0, .int .i64 0, .int .i64 0, .int .u32 0, .int .u64 0, .int .u32 0, .int .i64 0, .int .i64 0, .slice none 0 0, .slice none 0 0] 26)) (g := w5.heap.size) (Nat.le_refl _)
  generalize (w5.alloc (.cells #[.int .i64 0, .int .i64 0, .int .i64 0, .int .i64 0, .int .u32 0, .int .u64 0, .int .u32 0, .int .i64 0, .int .i64 0, .slice none 0 0, .slice none 0 0] 26)).setRow w5.heap.size (pcP P (.slice a2 S.length c2) (.slice b2 T.length d2)) = X5 at nx bx ⊢
  have HT6 : Hid (X5.heap[B]? = some (.cells (pcP p (.slice sa s.length sc) (.slice ta t.length tc)) 26 (0, 0)) ∧ X5.heap[B + 1]? = some (.cells (pcP q (.slice sa' s'.length sc') (.slice ta' t'.length tc')) 26 (0, 0)) ∧ Below B w X5) := ⟨blk_keep HT5.out.1 bx, blk_keep HT5.out.2.1 bx, below_row HT5.out.2.2 bx (by have := blk_lt HT5.out.2.1; omega)⟩
  have PA2 := TW.hide (pa2.below bx)
  have PB2 := TW.hide (pb2.below bx)
  have NX := TW.hide nx
  clear pa2 pb2 nx bx HT5
  generalize w5.heap.size = g1 at *
  refine HK.out _ _ ?_
  clear HK KK
  refine wp_seq_k fun KK hK => ?_
  have HK := TW.hide hK
  clear hK
  go_wp2_with (refine wpList_load_row (by rfl) 26 _ (by rfl) (B) (by rfl) 26 (pcP p (.slice sa s.length sc) (.slice ta t.length tc)) (0, 0) _ HT6.out.1 Try.underlying26 rfl (info31 _ _ _) ?_)
  refine (H20.out X5 HT6.out.2.2).mono ?_
  rintro e w6 ⟨a3, c3, b3, d3, rfl, pa3, pb3, hb⟩
  have HT7 : Hid (w6.heap[B]? = some (.cells (pcP p (.slice sa s.length sc) (.slice ta t.length tc)) 26 (0, 0)) ∧ w6.heap[B + 1]? = some (.cells (pcP q (.slice sa' s'.length sc') (.slice ta' t'.length tc')) 26 (0, 0)) ∧ Below B w w6) := ⟨blk_keep HT6.out.1 hb, blk_keep HT6.out.2.1 hb, below_row HT6.out.2.2 hb (by have := blk_lt HT6.out.2.1; omega)⟩
  have PA2' := TW.hide (PA2.out.below hb)
  have PB2' := TW.hide (PB2.out.below hb)
  have NX' := TW.hide (blk_keep NX.out hb)
  clear HT6 hb PA2 PB2 NX
  go_wp2_with (first | (refine wpList_store_row (by rfl) 26 _ _ (by rfl) (w6.heap.size) (pcP P (.slice a3 S.length c3) (.slice b3 T.length d3)) (by rfl) (by rfl) 26 _ (heap_new w6 _) (info31 _ _ _) (pc_size Pm.zero _ _ _ _ _) (pc_one _ _ _ _ _ _ _) ?_))
  have ny := setRow_heap _ _ _ (pcP P (.slice a3 S.length c3) (.slice b3 T.length d3)) _ _ (heap_new w6 (.cells #[.int .i64 0, .int .i64 0, .int .i64 0, .int .i64 0, .int .u32 0, .int .u64 0, .int .u32 0, .int .i64 0, .int .i64 0, .slice none 0 0, .slice none 0 0] 26))
  have bx := below_setRow (cs := (pcP P (.slice a3 S.length c3) (.slice b3 T.length d3))) ((Below.refl w6.heap.size w6).alloc (Nat.le_refl _) (.cells #[.int .i64 0, .int .i64 0, .int .i64 0, .int .i64 0, .int .u32 0, .int .u64 0, .int .u32 0, .int .i64 0, .int .i64 0, .slice none 0 0, .slice none 0 0] 26)) (g := w6.heap.size) (Nat.le_refl _)
  generalize (w6.alloc (.cells #[.int .i64 0, .int .i64 0, .int .i64 0, .int .i64 0, .int .u32 0, .int .u64 0, .int .u32 0, .int .i64 0, .int .i64 0, .slice none 0 0, .slice none 0 0] 26)).setRow w6.heap.size (pcP P (.slice a3 S.length c3) (.slice b3 T.length d3)) = X6 at ny bx ⊢
  have HT8 : Hid (X6.heap[B]? = some (.cells (pcP p (.slice sa s.length sc) (.slice ta t.length tc)) 26 (0, 0)) ∧ X6.heap[B + 1]? = some (.cells (pcP q (.slice sa' s'.length sc') (.slice ta' t'.length tc')) 26 (0, 0)) ∧ Below B w X6) := ⟨blk_keep HT7.out.1 bx, blk_keep HT7.out.2.1 bx, below_row HT7.out.2.2 bx (by have := blk_lt HT7.out.2.1; omega)⟩
  have PA2 := TW.hide (PA2'.out.below bx)
  have PB2 := TW.hide (PB2'.out.below bx)
  have PA3 := TW.hide (pa3.below bx)
  have PB3 := TW.hide (pb3.below bx)
  have NX := TW.hide (blk_keep NX'.out bx)
  have NY := TW.hide ny
  clear pa3 pb3 ny bx HT7 PA2' PB2' NX'
  generalize w6.heap.size = g2 at *
  refine HK.out _ _ ?_
  clear HK KK
  refine wp_seq_k fun KK hK => ?_
  have HK := TW.hide hK
  clear hK
  go_wp2_with (first | (refine wpList_val (.agg (pcP P (.slice a2 S.length c2) (.slice b2 T.length d2))) (by rfl) (exec_load_row' 26 _ (by rfl) (g1) (by rfl) 26 (pcP P (.slice a2 S.length c2) (.slice b2 T.length d2)) (0, 0) _ NX.out Try.underlying26 rfl (info31 _ _ _)) ?_) | (refine wpList_val (.agg (pcP P (.slice a3 S.length c3) (.slice b3 T.length d3))) (by rfl) (exec_load_row' 26 _ (by rfl) (g2) (by rfl) 26 (pcP P (.slice a3 S.length c3) (.slice b3 T.length d3)) (0, 0) _ NY.out Try.underlying26 rfl (info31 _ _ _)) ?_))
  refine (H15.out _ _ _ _ _ _ _ _ X6 PA2.out PB2.out PA3.out PB3.out).mono ?_
  rintro e w7 ⟨rfl, hb⟩
  have HT9 : Hid (w7.heap[B]? = some (.cells (pcP p (.slice sa s.length sc) (.slice ta t.length tc)) 26 (0, 0)) ∧ w7.heap[B + 1]? = some (.cells (pcP q (.slice sa' s'.length sc') (.slice ta' t'.length tc')) 26 (0, 0)) ∧ Below B w w7) := ⟨blk_keep HT8.out.1 hb, blk_keep HT8.out.2.1 hb, below_row HT8.out.2.2 hb (by have := blk_lt HT8.out.2.1; omega)⟩
  clear HT8 hb PA2 PB2 PA3 PB3 NX NY
  go_wp2
  refine HK.out _ _ ?_
  clear HK KK
  refine wp_seq ?_
  refine wp_region_noPanic ?_
  refine RG.wp_region_L (fun Z => True) (fun Z => Z.heap[B]? = some (.cells (pcP p (.slice sa s.length sc) (.slice ta t.length tc)) 26 (0, 0)) ∧ Z.heap[B + 1]? = some (.cells (pcP q (.slice sa' s'.length sc') (.slice ta' t'.length tc')) 26 (0, 0)) ∧ Below B w Z) [] (by kernel_rfl) ?_
  have HT10 : Hid (w7.drew.heap[B]? = some (.cells (pcP p (.slice sa s.length sc) (.slice ta t.length tc)) 26 (0, 0)) ∧ w7.drew.heap[B + 1]? = some (.cells (pcP q (.slice sa' s'.length sc') (.slice ta' t'.length tc')) 26 (0, 0)) ∧ Below B w w7.drew) := ⟨HT9.out.1, HT9.out.2.1, below_drewN HT9.out.2.2 1⟩
  clear HT9
  generalize w7.drew = Y7 at *
  refine RG.wpL_take (fuel := 8) (a' := ?A2) [0, 1, 3] (by kernel_rfl) (by kernel_rfl) (fun _ _ _ _ _ h => h) HT10.out (fun _ => trivial) ?r2 ?_
  case r2 =>
    refine RG.RunsIf.weak (v := ?_) (by rfl) (by rfl) (fun Z hT => ?_) ?_
    rotate_left
    · skip
      go_simp
      rfl
    simp only [Act.put, List.setIfInBounds_toArray, List.set_cons_zero, List.set_cons_succ, List.getElem_toArray, List.getElem_cons_zero, List.getElem_cons_succ]
    refine RG.RunsIf.weak (by rfl) (by rfl) (fun Z hT => exec_load_row 26 _ (by rfl) (B) (by rfl) 26 (pcP p (.slice sa s.length sc) (.slice ta t.length tc)) (0, 0) _ hT.1 Try.underlying26 rfl (info31 _ _ _)) ?_
    simp only [Act.put, List.setIfInBounds_toArray, List.set_cons_zero, List.set_cons_succ, List.getElem_toArray, List.getElem_cons_zero, List.getElem_cons_succ]
    refine RG.RunsIf.weak (by rfl) (by rfl) (fun Z hT => exec_load_row 26 _ (by rfl) (B + 1) (by rfl) 26 (pcP q (.slice sa' s'.length sc') (.slice ta' t'.length tc')) (0, 0) _ hT.2.1 Try.underlying26 rfl (info31 _ _ _)) ?_
    simp only [Act.put, List.setIfInBounds_toArray, List.set_cons_zero, List.set_cons_succ, List.getElem_toArray, List.getElem_cons_zero, List.getElem_cons_succ]
    exact RG.RunsIf.nil
  refine RG.wpL_step (i := 2) (by kernel_rfl) (by rfl) (by rfl) (fun K hK => ?_)
  have HK := TW.hide hK
  clear hK
  go_simp
  refine (HC.out Y7 HT10.out.2.2).mono ?_
  rintro e w8 ⟨a4, c4, b4, d4, rfl, pa4, pb4, hb⟩
  have HT11 : Hid (w8.heap[B]? = some (.cells (pcP p (.slice sa s.length sc) (.slice ta t.length tc)) 26 (0, 0)) ∧ w8.heap[B + 1]? = some (.cells (pcP q (.slice sa' s'.length sc') (.slice ta' t'.length tc')) 26 (0, 0)) ∧ Below B w w8) := ⟨blk_keep HT10.out.1 hb, blk_keep HT10.out.2.1 hb, below_row HT10.out.2.2 hb (by have := blk_lt HT10.out.2.1; omega)⟩
  refine HK.out _ _ HT11.out (fun _ => trivial) ?_
  clear HK K HT10
  clear hb
  refine RG.wpL_step (i := 4) (by kernel_rfl) (by rfl) (by rfl) (fun K hK => ?_)
  have HK := TW.hide hK
  clear hK
  go_simp
  refine (HD.out w8 HT11.out.2.2).mono ?_
  rintro e w9 ⟨a5, c5, b5, d5, rfl, pa5, pb5, hb⟩
  have HT12 : Hid (w9.heap[B]? = some (.cells (pcP p (.slice sa s.length sc) (.slice ta t.length tc)) 26 (0, 0)) ∧ w9.heap[B + 1]? = some (.cells (pcP q (.slice sa' s'.length sc') (.slice ta' t'.length tc')) 26 (0, 0)) ∧ Below B w w9) := ⟨blk_keep HT11.out.1 hb, blk_keep HT11.out.2.1 hb, below_row HT11.out.2.2 hb (by have := blk_lt HT11.out.2.1; omega)⟩
  refine HK.out _ _ HT12.out (fun _ => trivial) ?_
  have pa6 := pa4.below hb
  have pb6 := pb4.below hb
  clear HK K HT11 hb pa4 pb4
  refine RG.wpL_step (i := 5) (by kernel_rfl) (by rfl) (by rfl) (fun K hK => ?_)
  have HK := TW.hide hK
  clear hK
  go_simp
  refine (H21.out _ _ _ _ _ _ _ _ w9 pa6 pb6 pa5 pb5).mono ?_
  rintro e w10 ⟨rfl, hb⟩
  have HT13 : Hid (w10.heap[B]? = some (.cells (pcP p (.slice sa s.length sc) (.slice ta t.length tc)) 26 (0, 0)) ∧ w10.heap[B + 1]? = some (.cells (pcP q (.slice sa' s'.length sc') (.slice ta' t'.length tc')) 26 (0, 0)) ∧ Below B w w10) := ⟨blk_keep HT12.out.1 hb, blk_keep HT12.out.2.1 hb, below_row HT12.out.2.2 hb (by have := blk_lt HT12.out.2.1; omega)⟩
  refine HK.out _ _ HT13.out (fun _ => trivial) ?_
  clear HK K HT12 hb pa5 pb5 pa6 pb6
  refine RG.wpL_take (fuel := 0) (a' := ?A3) [6, 7, 8, 9, 10] (by kernel_rfl) (by kernel_rfl) (fun _ _ _ _ _ h => h) HT13.out (fun _ => trivial) ?r3 ?_
  case r3 =>
    refine RG.RunsIf.weak (v := ?_) (by rfl) (by rfl) (fun Z hT => ?_) ?_
    rotate_left
    · skip
      go_simp
      rfl
    simp only [Act.put, List.setIfInBounds_toArray, List.set_cons_zero, List.set_cons_succ, List.getElem_toArray, List.getElem_cons_zero, List.getElem_cons_succ]
    refine RG.RunsIf.weak (v := ?_) (by rfl) (by rfl) (fun Z hT => ?_) ?_
    rotate_left
    · skip
      go_simp
      rfl
    simp only [Act.put, List.setIfInBounds_toArray, List.set_cons_zero, List.set_cons_succ, List.getElem_toArray, List.getElem_cons_zero, List.getElem_cons_succ]
    refine RG.RunsIf.weak (v := ?_) (by rfl) (by rfl) (fun Z hT => ?_) ?_
    rotate_left
    · skip
      go_simp
      rfl
    simp only [Act.put, List.setIfInBounds_toArray, List.set_cons_zero, List.set_cons_succ, List.getElem_toArray, List.getElem_cons_zero, List.getElem_cons_succ]
    refine RG.RunsIf.weak (v := ?_) (by rfl) (by rfl) (fun Z hT => ?_) ?_
    rotate_left
    · skip
      go_simp
      rfl
    simp only [Act.put, List.setIfInBounds_toArray, List.set_cons_zero, List.set_cons_succ, List.getElem_toArray, List.getElem_cons_zero, List.getElem_cons_succ]
    refine RG.RunsIf.weak (v := ?_) (by rfl) (by rfl) (fun Z hT => ?_) ?_
    rotate_left
    · skip
      go_simp
      rfl
    simp only [Act.put, List.setIfInBounds_toArray, List.set_cons_zero, List.set_cons_succ, List.getElem_toArray, List.getElem_cons_zero, List.getElem_cons_succ]
    exact RG.RunsIf.nil
  refine RG.wpL_done (by kernel_rfl) ?_ _
  refine NoPanic.normal ?_
  go_wp2_with (first | (refine wpList_load_row (by rfl) 26 _ (by rfl) (B) (by rfl) 26 (pcP p (.slice sa s.length sc) (.slice ta t.length tc)) (0, 0) _ HT13.out.1 Try.underlying26 rfl (info31 _ _ _) ?_) | (refine wpList_load_row (by rfl) 26 _ (by rfl) (B + 1) (by rfl) 26 (pcP q (.slice sa' s'.length sc') (.slice ta' t'.length tc')) (0, 0) _ HT13.out.2.1 Try.underlying26 rfl (info31 _ _ _) ?_))
  refine (H22.out w10 HT13.out.2.2).mono ?_
  rintro e w11 ⟨rfl, hb⟩
  have HT14 : Hid (w11.heap[B]? = some (.cells (pcP p (.slice sa s.length sc) (.slice ta t.length tc)) 26 (0, 0)) ∧ w11.heap[B + 1]? = some (.cells (pcP q (.slice sa' s'.length sc') (.slice ta' t'.length tc')) 26 (0, 0)) ∧ Below B w w11) := ⟨blk_keep HT13.out.1 hb, blk_keep HT13.out.2.1 hb, below_row HT13.out.2.2 hb (by have := blk_lt HT13.out.2.1; omega)⟩
  clear HT13 hb
  go_wp2
  go_ret
  exact ⟨rfl, HT14.out.2.2⟩
theorem checksWalk (kd : Int) (p q : Pm) (hp : p.Ok) (hq : q.Ok) (sa ta sa' ta' : Option Addr) (sc tc sc' tc' : Nat) (s t s' t' : List Int) (w : World) (h1 : Pb w sa sc s) (h2 : Pb w ta tc t) (h3 : Pb w sa' sc' s') (h4 : Pb w ta' tc' t') :
    Calls Try.prog 3 #[.int .i64 kd, .agg (pcP p (.slice sa s.length sc) (.slice ta t.length tc)), .agg (pcP q (.slice sa' s'.length sc') (.slice ta' t'.length tc'))] w fun e w' => e = .returned (.bool true) ∧ Below w.heap.size w w' := by
  have lS := nS_le (p.ck kd s.length t.length) s h1.len
  have lT := nS_le (p.ck kd s.length t.length) t h2.len
  have bS := nS_byt (p.ck kd s.length t.length) s h1.byt
  have bT := nS_byt (p.ck kd s.length t.length) t h2.byt
  refine checksGen kd (p.ck kd s.length t.length) _ _ p q (nP (p.ck kd s.length t.length) p) sa ta sa' ta' sc tc sc' tc' s t s' t' (nS (p.ck kd s.length t.length) s) (nS (p.ck kd s.length t.length) t) w
    bS bT lS lT
    (TW.hide fun W hb => (copiedP p sa ta sc tc s t W (h1.row.below hb) (h2.row.below hb) h1.nil h2.nil h1.len h2.len).mono ?_)
    (TW.hide fun W hb => (copiedP q sa' ta' sc' tc' s' t' W (h3.row.below hb) (h4.row.below hb) h3.nil h4.nil h3.len h4.len).mono ?_)
    (TW.hide fun a c b d W => checkP kd p hp a b _ c _ d W) (TW.hide fun W => rcheckP kd p hp sa ta _ sc _ tc W)
    (TW.hide fun a c b d W g1 g2 => (normalP kd p hp a b c d s t W g1.toPb g2.toPb).mono ?_)
    (TW.hide fun W hb => (rnormalP kd p hp sa ta sc tc s t W (h1.below hb) (h2.below hb)).mono ?_)
    (TW.hide fun a c b d a' c' b' d' W g1 g2 g3 g4 => alikeE _ _ _ _ _ _ _ _ _ a b a' b' c d c' d' _ _ W g1.row g2.row g3.row g4.row (by unfold maxLen; omega) (by unfold maxLen; omega))
    (TW.hide fun a c b d a' c' b' d' W g1 g2 g3 g4 => sameP kd p q hp hq a b a' b' c d c' d' s t s' t' W g1 g2 g3 g4)
    (TW.hide fun W hb => rsameP kd p q hp hq sa ta sa' ta' sc tc sc' tc' s t s' t' W (h1.below hb) (h2.below hb) (h3.below hb) (h4.below hb))
  · rintro e w' ⟨x, y, rfl, ox, oy, hb'⟩
    obtain ⟨a, c, rfl, pa⟩ := Pa.own ox h1.len h1.byt
    obtain ⟨b, d, rfl, pb⟩ := Pa.own oy h2.len h2.byt
    exact ⟨a, c, b, d, rfl, pa, pb, hb'⟩
  · rintro e w' ⟨x, y, rfl, ox, oy, hb'⟩
    obtain ⟨a, c, rfl, pa⟩ := Pa.own ox h3.len h3.byt
    obtain ⟨b, d, rfl, pb⟩ := Pa.own oy h4.len h4.byt
    exact ⟨a, c, b, d, rfl, pa, pb, hb'⟩
  · rintro e w' ⟨x, y, rfl, ox, oy, hb'⟩
    obtain ⟨a, c, rfl, pa⟩ := Pa.own ox lS bS
    obtain ⟨b, d, rfl, pb⟩ := Pa.own oy lT bT
    exact ⟨a, c, b, d, rfl, pa, pb, hb'⟩
  · rintro e w' ⟨x, y, rfl, ox, oy, hb'⟩
    obtain ⟨a, c, rfl, pa⟩ := Pa.own ox lS bS
    obtain ⟨b, d, rfl, pb⟩ := Pa.own oy lT bT
    exact ⟨a, c, b, d, rfl, pa, pb, hb'⟩
theorem checksLaw (kd : Int) (p : Pm) (sa ta : Option Addr) (sc tc : Nat) (s t : List Int) (q : Pm) (sa' ta' : Option Addr) (sc' tc' : Nat) (s' t' : List Int) (w : World) (_ : (Lit.int .i64 kd).wf = true) (hp : p.Ok) (h1 : Pb w sa sc s) (h2 : Pb w ta tc t) (hq : q.Ok) (h3 : Pb w sa' sc' s') (h4 : Pb w ta' tc' t') :
    Calls Try.prog 3 #[.int .i64 kd, .agg (pcP p (.slice sa s.length sc) (.slice ta t.length tc)), .agg (pcP q (.slice sa' s'.length sc') (.slice ta' t'.length tc'))] w fun e w' => e = .returned (.bool true) ∧ Below w.heap.size w w' :=
  checksWalk kd p q hp hq sa ta sa' ta' sc tc sc' tc' s t s' t' w h1 h2 h3 h4
end LW
end Go.Proofs.Ytpcahieaakjaaaa
