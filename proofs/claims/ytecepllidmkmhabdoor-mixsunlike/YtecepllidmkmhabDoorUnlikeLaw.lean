/-
  What the law MixsUnlike does: for one message unlike chains, counts or flags come to unlike states.
-/
import Derived.Test.YtecepllidmkmhabDoorStRead
import Derived.Test.YtecepllidmkmhabDoorAlive
import Derived.Test.YtecepllidmkmhabDoorOrder
namespace Go.Proofs.YtecepllidmkmhabDoor
open Go.RowKit
set_option linter.unusedVariables false
set_option linter.unusedSimpArgs false
namespace MX
open Turn
attribute [local go_sem ↓] Go.wp_at_zero Go.wp_at_succ
set_option maxRecDepth 100000 in
set_option maxHeartbeats 1000000 in
theorem unlikeWalk (hs ms : List Int) (n : Int) (la no : Bool) (hs' ms' : List Int) (n' : Int) (la' no' : Bool) (w : World) (to : Tab w 1 .u8 ordL) (ti : Tab w 0 .u32 ivL) (hl : hs.length = 8) (hm : ms.length = 16) (hw : Ws hs) (hM : Ws ms) (wn : 0 ≤ n) (wm : n < 18446744073709551616)
    (hl' : hs'.length = 8) (hm' : ms'.length = 16) (hw' : Ws hs') (hM' : Ws ms') (wn' : 0 ≤ n') (wm' : n' < 18446744073709551616) :
    Calls Tryd.prog 6 #[.agg (runC hs ms n la no), .agg (runC hs' ms' n' la' no')] w fun e w' => e = .returned (.bool true) ∧ Below w.heap.size w w' := by
  have i8 : (Tryd.prog.info? 23).map (·.size) = some (hs.map (Value.int .u32)).length := by rw [List.length_map, hl]; kernel_rfl
  have j8 : (Tryd.prog.info? 23).map (·.size) = some (hs'.map (Value.int .u32)).length := by rw [List.length_map, hl']; kernel_rfl
  have k8 := info8 hs' hl'
  have o8 := size8 (List.replicate 8 0) hs' rfl hl'
  have i16 : (Tryd.prog.info? 34).map (·.size) = some (ms.map (Value.int .u32)).length := by rw [List.length_map, hm]; kernel_rfl
  have hvl := beginL_length hs n la no hl
  have hvl2 := beginL_length hs' n' la' no' hl'
  have hsc := fun Z B => run_cell hs ms n la no hl hm Z B
  have hsd := fun Z B => run_cell hs' ms' n' la' no' hl' hm' Z B
  have p1 := fun Y (hb : Below w.heap.size w Y) => states hs ms n la no Y (ti.below hb) (to.below hb) hl hm hw hM wn wm
  have p2 := fun Y (hb : Below w.heap.size w Y) => states hs' ms n' la' no' Y (ti.below hb) (to.below hb) hl' hm hw' hM wn' wm'
  have hal := fun Y (h : Below w.heap.size w Y) => alive Y (ti.below h)
  have ixa : ∀ j, (Tryd.prog.info? 34).map (·.size) = some (X (roundsL (beginL hs n la no) ms j)).length := fun j => by rw [X_length, roundsL_length, hvl]; kernel_rfl
  have ixb : ∀ j, (Tryd.prog.info? 34).map (·.size) = some (X (roundsL (beginL hs' n' la' no') ms j)).length := fun j => by rw [X_length, roundsL_length, hvl2]; kernel_rfl
  obtain ⟨E, he⟩ : ∃ E, decide (hs = hs' ∧ n = n' ∧ la = la' ∧ no = no') = E := ⟨_, rfl⟩
  have qq : ∀ (k : Nat) Z, (Op.equalIn 10000 34 (.agg (X (roundsL (beginL hs n la no) ms k)).toArray) (.agg (X (roundsL (beginL hs' n' la' no') ms k)).toArray)).run Tryd.prog Z = .ok E Z := fun k Z => by
    have h := eq16 Z (roundsL (beginL hs n la no) ms k) (roundsL (beginL hs' n' la' no') ms k) (by rw [roundsL_length, hvl]) (by rw [roundsL_length, hvl2])
    rw [states_same hl hl' wn wm wn' wm' hw hw' hM k, he] at h
    exact h
  have q10 := qq 10
  have q5 := qq 5
  have q8 : ∀ Z, (Op.equalIn 10000 23 (.agg (hs.map (Value.int .u32)).toArray) (.agg (K .u32 hs'))).run Tryd.prog Z = .ok (decide (hs = hs')) Z := fun Z => eq8 Z hs hs' hl hl'
  clear to ti hl hm hw hM hl' hm' hw' hM' qq
  have I8 := TW.hide i8
  have J8 := TW.hide j8
  have K8 := TW.hide k8
  have O8 := TW.hide o8
  have I16 := TW.hide i16
  have HVL := TW.hide hvl
  have HVL2 := TW.hide hvl2
  have HSC := TW.hide hsc
  have HSD := TW.hide hsd
  have P1 := TW.hide p1
  have P2 := TW.hide p2
  have HAL := TW.hide hal
  have IXA := TW.hide ixa
  have IXB := TW.hide ixb
  have Q10 := TW.hide q10
  have Q5 := TW.hide q5
  have Q8 := TW.hide q8
  have HE0 := TW.hide he
  clear i8 j8 k8 o8 i16 hvl hvl2 hsc hsd p1 p2 hal ixa ixb q10 q5 q8 he
  have hb := (((Below.refl w.heap.size w).alloc (Nat.le_refl _) (.cells (runC hs ms n la no) 43)).alloc (by simp; try omega) (.cells (runC hs' ms' n' la' no') 43))
  have n0 := (blk_alloc (o' := .cells (runC hs' ms' n' la' no') 43) (heap_new w (.cells (runC hs ms n la no) 43)))
  have n1 := (heap_new (w.alloc (.cells (runC hs ms n la no) 43)) (.cells (runC hs' ms' n' la' no') 43))
  rw [show (w.alloc (.cells (runC hs ms n la no) 43)).heap.size = w.heap.size + 1 by simp] at n1
  go_enter Tryd.func6, Tryd.ntmps6
  refine wp_seq_k fun K hK => ?_
  have HK := TW.hide hK
  clear hK
  go_wp2
  refine HK.out _ _ ?_
  clear HK K
  change Code.wp _ _ _ _ ((w.alloc (.cells (runC hs ms n la no) 43)).alloc (.cells (runC hs' ms' n' la' no') 43))
  generalize hWW : (w.alloc (.cells (runC hs ms n la no) 43)).alloc (.cells (runC hs' ms' n' la' no') 43) = W at hb n0 n1 ⊢
  have hW : W.heap.size = w.heap.size + 1 + 1 := by rw [← hWW]; simp
  clear hWW
  generalize hB : w.heap.size = B at *
  have HT : Hid (W.heap[B]? = some (.cells (runC hs ms n la no) 43 (0, 0)) ∧ W.heap[B + 1]? = some (.cells (runC hs' ms' n' la' no') 43 (0, 0)) ∧ Below B w W) := ⟨n0, n1, hb⟩
  clear n0 n1 hb hW
  refine wp_seq_k fun KK hK => ?_
  have HK0 := TW.hide hK
  clear hK
  refine wp_region_noPanic ?_
  refine RG.wp_region_L (fun Z => True) (fun Z => Z.heap[B]? = some (.cells (runC hs ms n la no) 43 (0, 0)) ∧ Z.heap[B + 1]? = some (.cells (runC hs' ms' n' la' no') 43 (0, 0)) ∧ Below B w Z) [] (by kernel_rfl) ?_
  refine RG.wpL_any fun Yr hY => ?_
  have HTr : Hid (Yr.heap[B]? = some (.cells (runC hs ms n la no) 43 (0, 0)) ∧ Yr.heap[B + 1]? = some (.cells (runC hs' ms' n' la' no') 43 (0, 0)) ∧ Below B w Yr) := by rw [hY]; exact ⟨HT.out.1, HT.out.2.1, below_drewN HT.out.2.2 1⟩
  clear hY
  refine RG.wpL_take (fuel := 5) (a' := ?Ar) [0, 1, 2, 3, 4, 5, 6, 7] (by kernel_rfl) (by kernel_rfl) (fun _ _ _ _ _ h => h) HTr.out (fun _ => trivial) ?rr ?_
  case rr =>
    refine RG.RunsIf.weak (v := ?_) (by rfl) (by rfl) (fun Z hT => ?_) ?_
    rotate_left
    · obtain ⟨_, _, c0, c1, c2⟩ := HSD.out Z (B + 1) hT.2.1
      go_simp
      rfl
    simp only [Act.put, List.setIfInBounds_toArray, List.set_cons_zero, List.set_cons_succ, List.getElem_toArray, List.getElem_cons_zero, List.getElem_cons_succ]
    refine RG.RunsIf.weak (by rfl) (by rfl) (fun Z hT => exec_load_mid 23 _ (by rfl) (B + 1) 0 (by rfl) (hs'.map (Value.int .u32)) _ (HSD.out Z (B + 1) hT.2.1).1 Tryd.underlying23 rfl J8.out) ?_
    simp only [Act.put, List.setIfInBounds_toArray, List.set_cons_zero, List.set_cons_succ, List.getElem_toArray, List.getElem_cons_zero, List.getElem_cons_succ]
    refine RG.RunsIf.weak (v := ?_) (by rfl) (by rfl) (fun Z hT => ?_) ?_
    rotate_left
    · obtain ⟨_, _, c0, c1, c2⟩ := HSD.out Z (B + 1) hT.2.1
      go_simp
      rfl
    simp only [Act.put, List.setIfInBounds_toArray, List.set_cons_zero, List.set_cons_succ, List.getElem_toArray, List.getElem_cons_zero, List.getElem_cons_succ]
    refine RG.RunsIf.weak (v := ?_) (by rfl) (by rfl) (fun Z hT => ?_) ?_
    rotate_left
    · obtain ⟨_, _, c0, c1, c2⟩ := HSD.out Z (B + 1) hT.2.1
      go_simp
      rfl
    simp only [Act.put, List.setIfInBounds_toArray, List.set_cons_zero, List.set_cons_succ, List.getElem_toArray, List.getElem_cons_zero, List.getElem_cons_succ]
    refine RG.RunsIf.weak (v := ?_) (by rfl) (by rfl) (fun Z hT => ?_) ?_
    rotate_left
    · obtain ⟨_, _, c0, c1, c2⟩ := HSD.out Z (B + 1) hT.2.1
      go_simp
      rfl
    simp only [Act.put, List.setIfInBounds_toArray, List.set_cons_zero, List.set_cons_succ, List.getElem_toArray, List.getElem_cons_zero, List.getElem_cons_succ]
    refine RG.RunsIf.weak (v := ?_) (by rfl) (by rfl) (fun Z hT => ?_) ?_
    rotate_left
    · obtain ⟨_, _, c0, c1, c2⟩ := HSD.out Z (B + 1) hT.2.1
      go_simp
      rfl
    simp only [Act.put, List.setIfInBounds_toArray, List.set_cons_zero, List.set_cons_succ, List.getElem_toArray, List.getElem_cons_zero, List.getElem_cons_succ]
    refine RG.RunsIf.weak (v := ?_) (by rfl) (by rfl) (fun Z hT => ?_) ?_
    rotate_left
    · obtain ⟨_, _, c0, c1, c2⟩ := HSD.out Z (B + 1) hT.2.1
      go_simp
      rfl
    simp only [Act.put, List.setIfInBounds_toArray, List.set_cons_zero, List.set_cons_succ, List.getElem_toArray, List.getElem_cons_zero, List.getElem_cons_succ]
    refine RG.RunsIf.weak (v := ?_) (by rfl) (by rfl) (fun Z hT => ?_) ?_
    rotate_left
    · obtain ⟨_, _, c0, c1, c2⟩ := HSD.out Z (B + 1) hT.2.1
      go_simp
      rfl
    simp only [Act.put, List.setIfInBounds_toArray, List.set_cons_zero, List.set_cons_succ, List.getElem_toArray, List.getElem_cons_zero, List.getElem_cons_succ]
    exact RG.RunsIf.nil
  have hyl : B + 1 < Yr.heap.size := blk_lt HTr.out.2.1
  have T2 : Hid ((Yr.alloc (.cells #[.int .u32 0, .int .u32 0, .int .u32 0, .int .u32 0, .int .u32 0, .int .u32 0, .int .u32 0, .int .u32 0] 23)).heap[B]? = some (.cells (runC hs ms n la no) 43 (0, 0)) ∧ (Yr.alloc (.cells #[.int .u32 0, .int .u32 0, .int .u32 0, .int .u32 0, .int .u32 0, .int .u32 0, .int .u32 0, .int .u32 0] 23)).heap[B + 1]? = some (.cells (runC hs' ms' n' la' no') 43 (0, 0)) ∧ Below B w (Yr.alloc (.cells #[.int .u32 0, .int .u32 0, .int .u32 0, .int .u32 0, .int .u32 0, .int .u32 0, .int .u32 0, .int .u32 0] 23))) := ⟨blk_alloc HTr.out.1, blk_alloc HTr.out.2.1, HTr.out.2.2.alloc (by omega) _⟩
  have T2n := TW.hide (heap_new Yr (.cells #[.int .u32 0, .int .u32 0, .int .u32 0, .int .u32 0, .int .u32 0, .int .u32 0, .int .u32 0, .int .u32 0] 23))
  refine RG.wpL_step (i := 8) (by kernel_rfl) (by rfl) (by rfl) (fun KX hK => ?_)
  have HK := TW.hide hK
  clear hK
  go_simp
  refine HK.out _ _ T2.out (fun _ => trivial) ?_
  clear HK KX
  have T3 : Hid (((Yr.alloc (.cells #[.int .u32 0, .int .u32 0, .int .u32 0, .int .u32 0, .int .u32 0, .int .u32 0, .int .u32 0, .int .u32 0] 23)).setRow Yr.heap.size (K .u32 hs')).heap[B]? = some (.cells (runC hs ms n la no) 43 (0, 0)) ∧ ((Yr.alloc (.cells #[.int .u32 0, .int .u32 0, .int .u32 0, .int .u32 0, .int .u32 0, .int .u32 0, .int .u32 0, .int .u32 0] 23)).setRow Yr.heap.size (K .u32 hs')).heap[B + 1]? = some (.cells (runC hs' ms' n' la' no') 43 (0, 0)) ∧ Below B w ((Yr.alloc (.cells #[.int .u32 0, .int .u32 0, .int .u32 0, .int .u32 0, .int .u32 0, .int .u32 0, .int .u32 0, .int .u32 0] 23)).setRow Yr.heap.size (K .u32 hs'))) := ⟨by rw [setRow_other _ _ _ _ (by omega)]; exact T2.out.1, by rw [setRow_other _ _ _ _ (by omega)]; exact T2.out.2.1, below_setRow T2.out.2.2 (by omega)⟩
  have T3n := TW.hide (setRow_heap _ _ _ (K .u32 hs') _ _ T2n.out)
  refine RG.wpL_step (i := 9) (by kernel_rfl) (by rfl) (by rfl) (fun KX hK => ?_)
  have HK := TW.hide hK
  clear hK
  refine wp_store_row 23 _ _ (by rfl) Yr.heap.size (K .u32 hs') (by rfl) (by rfl) 23 _ T2n.out K8.out O8.out (K_one _ _) ?_
  simp only [Act.put, List.setIfInBounds_toArray, List.set_cons_zero, List.set_cons_succ, List.getElem_toArray, List.getElem_cons_zero, List.getElem_cons_succ]
  refine HK.out _ _ T3.out (fun _ => trivial) ?_
  clear HK KX T2 T2n
  generalize (Yr.alloc (.cells #[.int .u32 0, .int .u32 0, .int .u32 0, .int .u32 0, .int .u32 0, .int .u32 0, .int .u32 0, .int .u32 0] 23)).setRow Yr.heap.size (K .u32 hs') = Y at *
  generalize Yr.heap.size = g at *
  refine RG.wpL_step (i := 10) (by kernel_rfl) (by rfl) (by rfl) (fun KX hK => ?_)
  have HK := TW.hide hK
  clear hK
  go_simp
  refine HK.out _ _ T3.out (fun _ => trivial) ?_
  clear HK KX
  refine RG.wpL_step (i := 11) (by kernel_rfl) (by rfl) (by rfl) (fun KX hK => ?_)
  have HK := TW.hide hK
  clear hK
  go_simp
  refine HK.out _ _ T3.out (fun _ => trivial) ?_
  clear HK KX
  refine RG.wpL_step (i := 12) (by kernel_rfl) (by rfl) (by rfl) (fun KX hK => ?_)
  have HK := TW.hide hK
  clear hK
  go_simp
  refine HK.out _ _ T3.out (fun _ => trivial) ?_
  clear HK KX
  refine RG.wpL_done (by kernel_rfl) ?_ _
  refine NoPanic.normal ?_
  refine HK0.out _ _ ?_
  clear HK0 KK HTr HT
  have N0 : Hid (Y.heap[B]? = some (.cells (runC hs ms n la no) 43 (0, 0))) := T3.out.1
  have NG : Hid (Y.heap[g]? = some (.cells (K .u32 hs') 23 (0, 0))) := T3n.out
  have NB : Hid (Below B w Y) := T3.out.2.2
  clear T3 T3n
  refine wp_seq_k fun KK hK => ?_
  have HK := TW.hide hK
  clear hK
  go_wp2_with fail
  refine (HAL.out _ NB.out).mono ?_
  rintro e w0 ⟨rfl, hb0⟩
  have N0' := TW.hide (blk_keep N0.out hb0)
  have NG' := TW.hide (blk_keep NG.out hb0)
  have NB' : Hid (Below B w w0) := below_row NB.out hb0 (by have := blk_lt N0.out; omega)
  clear hb0 N0 NG NB
  have N0 := N0'
  have NG := NG'
  have NB := NB'
  clear N0' NG' NB'
  go_wp2
  refine HK.out _ _ ?_
  clear HK KK
  refine wp_seq_k fun KK hK => ?_
  have HK := TW.hide hK
  clear hK
  obtain ⟨_, _, c0, c1, c2⟩ := HSC.out _ _ N0.out
  go_wp2_with (first | (refine wpList_load_mid (by rfl) 23 _ (by rfl) (B) 0 (by rfl) (hs.map (Value.int .u32)) _ (HSC.out _ _ N0.out).1 Tryd.underlying23 rfl I8.out ?_) | (refine wpList_load_mid (by rfl) 34 _ (by rfl) (B) 8 (by rfl) (ms.map (Value.int .u32)) _ (HSC.out _ _ N0.out).2.1 Tryd.underlying34 rfl I16.out ?_))
  refine (P1.out _ NB.out).mono ?_
  rintro e w1 ⟨v1, rfl, own1, hb1⟩
  obtain ⟨g1, cap1, rfl, hg1, hl1, hr1⟩ := own_state own1 HVL.out
  have R1 : Hid (∀ j, j < 11 → w1.rangeAt g1 (j * 16) (X (roundsL (beginL hs n la no) ms j))) := hr1
  have N0' := TW.hide (blk_keep N0.out hb1)
  have NG' := TW.hide (blk_keep NG.out hb1)
  have NB' : Hid (Below B w w1) := below_row NB.out hb1 (by have := blk_lt N0.out; omega)
  clear c0 c1 c2
  clear own1 hr1 hb1 N0 NG NB
  have N0 := N0'
  have NG := NG'
  have NB := NB'
  clear N0' NG' NB'
  go_wp2
  refine HK.out _ _ ?_
  clear HK KK
  refine wp_seq_k fun KK hK => ?_
  have HK := TW.hide hK
  clear hK
  go_wp2_with (first | (refine wpList_load_mid (by rfl) 34 _ (by rfl) (B) 8 (by rfl) (ms.map (Value.int .u32)) _ (HSC.out _ _ N0.out).2.1 Tryd.underlying34 rfl I16.out ?_) | (refine wpList_load_row (by rfl) 23 _ (by rfl) (g) (by rfl) 23 (K .u32 hs') (0, 0) _ NG.out Tryd.underlying23 rfl K8.out ?_))
  refine (P2.out _ NB.out).mono ?_
  rintro e w2 ⟨v2, rfl, own2, hb2⟩
  obtain ⟨g2, cap2, rfl, hg2, hl2, hr2⟩ := own_state own2 HVL2.out
  have R2 : Hid (∀ j, j < 11 → w2.rangeAt g2 (j * 16) (X (roundsL (beginL hs' n' la' no') ms j))) := hr2
  have N0' := TW.hide (blk_keep N0.out hb2)
  have NG' := TW.hide (blk_keep NG.out hb2)
  have NB' : Hid (Below B w w2) := below_row NB.out hb2 (by have := blk_lt N0.out; omega)
  have R1' : Hid (∀ j, j < 11 → w2.rangeAt g1 (j * 16) (X (roundsL (beginL hs n la no) ms j))) := fun j hj => range_below (R1.out j hj) hl1 hb2
  clear R1
  have R1 := R1'
  clear R1'
  clear own2 hr2 hb2 N0 NG NB
  have N0 := N0'
  have NG := NG'
  have NB := NB'
  clear N0' NG' NB'
  go_wp2
  refine HK.out _ _ ?_
  clear HK KK
  refine wp_seq_k fun KK hK => ?_
  have HK := TW.hide hK
  clear hK
  go_wp2
  refine HK.out _ _ ?_
  clear HK KK
  have HT : Hid ((∀ j, j < 11 → w2.rangeAt g1 (j * 16) (X (roundsL (beginL hs n la no) ms j))) ∧ (∀ j, j < 11 → w2.rangeAt g2 (j * 16) (X (roundsL (beginL hs' n' la' no') ms j))) ∧ Below B w w2) := ⟨R1.out, R2.out, NB.out⟩
  clear R1 R2
  refine wp_seq_k fun KK hK => ?_
  have HK := TW.hide hK
  clear hK
  obtain ⟨_, _, c0, c1, c2⟩ := HSC.out _ _ N0.out
  have q8 := Q8.out w2
  by_cases e1 : hs = hs'
  · rw [decide_eq_true e1] at q8
    by_cases e2 : n = n'
    · by_cases e3 : la = la'
      · by_cases e4 : no = no'
        · have f2 : (n == n') = true := by simp [e2]
          have f3 : (la == la') = true := by simp [e3]
          have f4 : (no == no') = true := by simp [e4]
          have HE : Hid (E = true) := by
            show _ = _
            rw [← HE0.out]; simp [e1, e2, e3, e4]
          clear e1 e2 e3 e4
          go_wp2_with (first | (refine wpList_load_mid (by rfl) 23 _ (by rfl) (B) 0 (by rfl) (hs.map (Value.int .u32)) _ (HSC.out _ _ N0.out).1 Tryd.underlying23 rfl I8.out ?_) | (refine wpList_load_row (by rfl) 23 _ (by rfl) (g) (by rfl) 23 (K .u32 hs') (0, 0) _ NG.out Tryd.underlying23 rfl K8.out ?_))
          refine HK.out _ _ ?_
          clear HK KK q8 c0 c1 c2 N0 NG NB
          refine wp_seq ?_
          refine wp_region_noPanic ?_
          refine RG.wp_region_L (fun Z => True) (fun Z => (∀ j, j < 11 → Z.rangeAt g1 (j * 16) (X (roundsL (beginL hs n la no) ms j))) ∧ (∀ j, j < 11 → Z.rangeAt g2 (j * 16) (X (roundsL (beginL hs' n' la' no') ms j))) ∧ Below B w Z) [] (by kernel_rfl) ?_
          refine RG.wpL_any fun Ya hY => ?_
          have HTa : Hid ((∀ j, j < 11 → Ya.rangeAt g1 (j * 16) (X (roundsL (beginL hs n la no) ms j))) ∧ (∀ j, j < 11 → Ya.rangeAt g2 (j * 16) (X (roundsL (beginL hs' n' la' no') ms j))) ∧ Below B w Ya) := by rw [hY]; exact ⟨HT.out.1, HT.out.2.1, below_drewN HT.out.2.2 1⟩
          clear hY
          refine RG.wpL_take (fuel := 1) (a' := ?Aa) [0, 1, 2, 3, 4, 5, 6, 7, 8, 9, 10, 11, 12, 13, 14, 15, 16, 17, 18, 19] (by kernel_rfl) (by kernel_rfl) (fun _ _ _ _ _ h => h) HTa.out (fun _ => trivial) ?ra ?_
          case ra =>
            refine RG.RunsIf.weak (v := ?_) (by rfl) (by rfl) (fun Z hT => ?_) ?_
            rotate_left
            · go_simp
              rfl
            simp only [Act.put, List.setIfInBounds_toArray, List.set_cons_zero, List.set_cons_succ, List.getElem_toArray, List.getElem_cons_zero, List.getElem_cons_succ]
            refine RG.RunsIf.weak (v := .pointer (some ⟨g1, 10 * 16, none⟩)) (by rfl) (by rfl) (fun Z hT => exec_indexAt 44 _ _ (by rfl) g1 11 cap1 10 16 34 (by rfl) (by rfl) (by decide) Tryd.underlying44 sizeS) ?_
            simp only [Act.put, List.setIfInBounds_toArray, List.set_cons_zero, List.set_cons_succ, List.getElem_toArray, List.getElem_cons_zero, List.getElem_cons_succ]
            refine RG.RunsIf.weak (by rfl) (by rfl) (fun Z hT => exec_load_mid 34 _ (by rfl) (g1) (10 * 16) (by rfl) (X (roundsL (beginL hs n la no) ms 10)) _ (hT.1 10 (by decide)) Tryd.underlying34 rfl (IXA.out 10)) ?_
            simp only [Act.put, List.setIfInBounds_toArray, List.set_cons_zero, List.set_cons_succ, List.getElem_toArray, List.getElem_cons_zero, List.getElem_cons_succ]
            refine RG.RunsIf.weak (v := ?_) (by rfl) (by rfl) (fun Z hT => ?_) ?_
            rotate_left
            · go_simp
              rfl
            simp only [Act.put, List.setIfInBounds_toArray, List.set_cons_zero, List.set_cons_succ, List.getElem_toArray, List.getElem_cons_zero, List.getElem_cons_succ]
            refine RG.RunsIf.weak (v := .pointer (some ⟨g2, 10 * 16, none⟩)) (by rfl) (by rfl) (fun Z hT => exec_indexAt 44 _ _ (by rfl) g2 11 cap2 10 16 34 (by rfl) (by rfl) (by decide) Tryd.underlying44 sizeS) ?_
            simp only [Act.put, List.setIfInBounds_toArray, List.set_cons_zero, List.set_cons_succ, List.getElem_toArray, List.getElem_cons_zero, List.getElem_cons_succ]
            refine RG.RunsIf.weak (by rfl) (by rfl) (fun Z hT => exec_load_mid 34 _ (by rfl) (g2) (10 * 16) (by rfl) (X (roundsL (beginL hs' n' la' no') ms 10)) _ (hT.2.1 10 (by decide)) Tryd.underlying34 rfl (IXB.out 10)) ?_
            simp only [Act.put, List.setIfInBounds_toArray, List.set_cons_zero, List.set_cons_succ, List.getElem_toArray, List.getElem_cons_zero, List.getElem_cons_succ]
            refine RG.RunsIf.weak (v := .bool true) (by rfl) (by rfl) (fun Z hT => ?_) ?_
            · have q := Q10.out Z
              rw [HE.out] at q
              go_simp
            simp only [Act.put, List.setIfInBounds_toArray, List.set_cons_zero, List.set_cons_succ, List.getElem_toArray, List.getElem_cons_zero, List.getElem_cons_succ]
            refine RG.RunsIf.weak (v := ?_) (by rfl) (by rfl) (fun Z hT => ?_) ?_
            rotate_left
            · go_simp
              rfl
            simp only [Act.put, List.setIfInBounds_toArray, List.set_cons_zero, List.set_cons_succ, List.getElem_toArray, List.getElem_cons_zero, List.getElem_cons_succ]
            refine RG.RunsIf.weak (v := ?_) (by rfl) (by rfl) (fun Z hT => ?_) ?_
            rotate_left
            · go_simp
              rfl
            simp only [Act.put, List.setIfInBounds_toArray, List.set_cons_zero, List.set_cons_succ, List.getElem_toArray, List.getElem_cons_zero, List.getElem_cons_succ]
            refine RG.RunsIf.weak (v := ?_) (by rfl) (by rfl) (fun Z hT => ?_) ?_
            rotate_left
            · go_simp
              rfl
            simp only [Act.put, List.setIfInBounds_toArray, List.set_cons_zero, List.set_cons_succ, List.getElem_toArray, List.getElem_cons_zero, List.getElem_cons_succ]
            refine RG.RunsIf.weak (v := ?_) (by rfl) (by rfl) (fun Z hT => ?_) ?_
            rotate_left
            · go_simp
              rfl
            simp only [Act.put, List.setIfInBounds_toArray, List.set_cons_zero, List.set_cons_succ, List.getElem_toArray, List.getElem_cons_zero, List.getElem_cons_succ]
            refine RG.RunsIf.weak (v := .pointer (some ⟨g1, 5 * 16, none⟩)) (by rfl) (by rfl) (fun Z hT => exec_indexAt 44 _ _ (by rfl) g1 11 cap1 5 16 34 (by rfl) (by rfl) (by decide) Tryd.underlying44 sizeS) ?_
            simp only [Act.put, List.setIfInBounds_toArray, List.set_cons_zero, List.set_cons_succ, List.getElem_toArray, List.getElem_cons_zero, List.getElem_cons_succ]
            refine RG.RunsIf.weak (by rfl) (by rfl) (fun Z hT => exec_load_mid 34 _ (by rfl) (g1) (5 * 16) (by rfl) (X (roundsL (beginL hs n la no) ms 5)) _ (hT.1 5 (by decide)) Tryd.underlying34 rfl (IXA.out 5)) ?_
            simp only [Act.put, List.setIfInBounds_toArray, List.set_cons_zero, List.set_cons_succ, List.getElem_toArray, List.getElem_cons_zero, List.getElem_cons_succ]
            refine RG.RunsIf.weak (v := ?_) (by rfl) (by rfl) (fun Z hT => ?_) ?_
            rotate_left
            · go_simp
              rfl
            simp only [Act.put, List.setIfInBounds_toArray, List.set_cons_zero, List.set_cons_succ, List.getElem_toArray, List.getElem_cons_zero, List.getElem_cons_succ]
            refine RG.RunsIf.weak (v := .pointer (some ⟨g2, 5 * 16, none⟩)) (by rfl) (by rfl) (fun Z hT => exec_indexAt 44 _ _ (by rfl) g2 11 cap2 5 16 34 (by rfl) (by rfl) (by decide) Tryd.underlying44 sizeS) ?_
            simp only [Act.put, List.setIfInBounds_toArray, List.set_cons_zero, List.set_cons_succ, List.getElem_toArray, List.getElem_cons_zero, List.getElem_cons_succ]
            refine RG.RunsIf.weak (by rfl) (by rfl) (fun Z hT => exec_load_mid 34 _ (by rfl) (g2) (5 * 16) (by rfl) (X (roundsL (beginL hs' n' la' no') ms 5)) _ (hT.2.1 5 (by decide)) Tryd.underlying34 rfl (IXB.out 5)) ?_
            simp only [Act.put, List.setIfInBounds_toArray, List.set_cons_zero, List.set_cons_succ, List.getElem_toArray, List.getElem_cons_zero, List.getElem_cons_succ]
            refine RG.RunsIf.weak (v := .bool true) (by rfl) (by rfl) (fun Z hT => ?_) ?_
            · have q := Q5.out Z
              rw [HE.out] at q
              go_simp
            simp only [Act.put, List.setIfInBounds_toArray, List.set_cons_zero, List.set_cons_succ, List.getElem_toArray, List.getElem_cons_zero, List.getElem_cons_succ]
            refine RG.RunsIf.weak (v := ?_) (by rfl) (by rfl) (fun Z hT => ?_) ?_
            rotate_left
            · go_simp
              rfl
            simp only [Act.put, List.setIfInBounds_toArray, List.set_cons_zero, List.set_cons_succ, List.getElem_toArray, List.getElem_cons_zero, List.getElem_cons_succ]
            refine RG.RunsIf.weak (v := ?_) (by rfl) (by rfl) (fun Z hT => ?_) ?_
            rotate_left
            · go_simp
              rfl
            simp only [Act.put, List.setIfInBounds_toArray, List.set_cons_zero, List.set_cons_succ, List.getElem_toArray, List.getElem_cons_zero, List.getElem_cons_succ]
            refine RG.RunsIf.weak (v := ?_) (by rfl) (by rfl) (fun Z hT => ?_) ?_
            rotate_left
            · go_simp
              rfl
            simp only [Act.put, List.setIfInBounds_toArray, List.set_cons_zero, List.set_cons_succ, List.getElem_toArray, List.getElem_cons_zero, List.getElem_cons_succ]
            exact RG.RunsIf.nil
          refine RG.wpL_step (i := 20) (by kernel_rfl) (by rfl) (by rfl) (fun KX hK => ?_)
          have HK := TW.hide hK
          clear hK
          go_simp
          refine HK.out _ _ HTa.out (fun _ => trivial) ?_
          clear HK KX
          refine RG.wpL_done (by kernel_rfl) ?_ _
          refine NoPanic.normal ?_
          go_wp2
          go_ret
          exact ⟨rfl, HTa.out.2.2⟩
        · have f2 : (n == n') = true := by simp [e2]
          have f3 : (la == la') = true := by simp [e3]
          have f4 : (no == no') = false := by simp [e4]
          have HE : Hid (E = false) := by
            show _ = _
            rw [← HE0.out]; simp [e4]
          clear e1 e2 e3 e4
          go_wp2_with (first | (refine wpList_load_mid (by rfl) 23 _ (by rfl) (B) 0 (by rfl) (hs.map (Value.int .u32)) _ (HSC.out _ _ N0.out).1 Tryd.underlying23 rfl I8.out ?_) | (refine wpList_load_row (by rfl) 23 _ (by rfl) (g) (by rfl) 23 (K .u32 hs') (0, 0) _ NG.out Tryd.underlying23 rfl K8.out ?_))
          refine HK.out _ _ ?_
          clear HK KK q8 c0 c1 c2 N0 NG NB
          refine wp_seq ?_
          refine wp_region_noPanic ?_
          refine RG.wp_region_L (fun Z => True) (fun Z => (∀ j, j < 11 → Z.rangeAt g1 (j * 16) (X (roundsL (beginL hs n la no) ms j))) ∧ (∀ j, j < 11 → Z.rangeAt g2 (j * 16) (X (roundsL (beginL hs' n' la' no') ms j))) ∧ Below B w Z) [] (by kernel_rfl) ?_
          refine RG.wpL_any fun Yb hY => ?_
          have HTb : Hid ((∀ j, j < 11 → Yb.rangeAt g1 (j * 16) (X (roundsL (beginL hs n la no) ms j))) ∧ (∀ j, j < 11 → Yb.rangeAt g2 (j * 16) (X (roundsL (beginL hs' n' la' no') ms j))) ∧ Below B w Yb) := by rw [hY]; exact ⟨HT.out.1, HT.out.2.1, below_drewN HT.out.2.2 1⟩
          clear hY
          refine RG.wpL_take (fuel := 1) (a' := ?Ab) [0, 1, 2, 3, 4, 5, 6, 7, 8, 9, 10, 11, 12, 13, 14, 15, 16, 17, 18, 19] (by kernel_rfl) (by kernel_rfl) (fun _ _ _ _ _ h => h) HTb.out (fun _ => trivial) ?rb ?_
          case rb =>
            refine RG.RunsIf.weak (v := ?_) (by rfl) (by rfl) (fun Z hT => ?_) ?_
            rotate_left
            · go_simp
              rfl
            simp only [Act.put, List.setIfInBounds_toArray, List.set_cons_zero, List.set_cons_succ, List.getElem_toArray, List.getElem_cons_zero, List.getElem_cons_succ]
            refine RG.RunsIf.weak (v := .pointer (some ⟨g1, 10 * 16, none⟩)) (by rfl) (by rfl) (fun Z hT => exec_indexAt 44 _ _ (by rfl) g1 11 cap1 10 16 34 (by rfl) (by rfl) (by decide) Tryd.underlying44 sizeS) ?_
            simp only [Act.put, List.setIfInBounds_toArray, List.set_cons_zero, List.set_cons_succ, List.getElem_toArray, List.getElem_cons_zero, List.getElem_cons_succ]
            refine RG.RunsIf.weak (by rfl) (by rfl) (fun Z hT => exec_load_mid 34 _ (by rfl) (g1) (10 * 16) (by rfl) (X (roundsL (beginL hs n la no) ms 10)) _ (hT.1 10 (by decide)) Tryd.underlying34 rfl (IXA.out 10)) ?_
            simp only [Act.put, List.setIfInBounds_toArray, List.set_cons_zero, List.set_cons_succ, List.getElem_toArray, List.getElem_cons_zero, List.getElem_cons_succ]
            refine RG.RunsIf.weak (v := ?_) (by rfl) (by rfl) (fun Z hT => ?_) ?_
            rotate_left
            · go_simp
              rfl
            simp only [Act.put, List.setIfInBounds_toArray, List.set_cons_zero, List.set_cons_succ, List.getElem_toArray, List.getElem_cons_zero, List.getElem_cons_succ]
            refine RG.RunsIf.weak (v := .pointer (some ⟨g2, 10 * 16, none⟩)) (by rfl) (by rfl) (fun Z hT => exec_indexAt 44 _ _ (by rfl) g2 11 cap2 10 16 34 (by rfl) (by rfl) (by decide) Tryd.underlying44 sizeS) ?_
            simp only [Act.put, List.setIfInBounds_toArray, List.set_cons_zero, List.set_cons_succ, List.getElem_toArray, List.getElem_cons_zero, List.getElem_cons_succ]
            refine RG.RunsIf.weak (by rfl) (by rfl) (fun Z hT => exec_load_mid 34 _ (by rfl) (g2) (10 * 16) (by rfl) (X (roundsL (beginL hs' n' la' no') ms 10)) _ (hT.2.1 10 (by decide)) Tryd.underlying34 rfl (IXB.out 10)) ?_
            simp only [Act.put, List.setIfInBounds_toArray, List.set_cons_zero, List.set_cons_succ, List.getElem_toArray, List.getElem_cons_zero, List.getElem_cons_succ]
            refine RG.RunsIf.weak (v := .bool false) (by rfl) (by rfl) (fun Z hT => ?_) ?_
            · have q := Q10.out Z
              rw [HE.out] at q
              go_simp
            simp only [Act.put, List.setIfInBounds_toArray, List.set_cons_zero, List.set_cons_succ, List.getElem_toArray, List.getElem_cons_zero, List.getElem_cons_succ]
            refine RG.RunsIf.weak (v := ?_) (by rfl) (by rfl) (fun Z hT => ?_) ?_
            rotate_left
            · go_simp
              rfl
            simp only [Act.put, List.setIfInBounds_toArray, List.set_cons_zero, List.set_cons_succ, List.getElem_toArray, List.getElem_cons_zero, List.getElem_cons_succ]
            refine RG.RunsIf.weak (v := ?_) (by rfl) (by rfl) (fun Z hT => ?_) ?_
            rotate_left
            · go_simp
              rfl
            simp only [Act.put, List.setIfInBounds_toArray, List.set_cons_zero, List.set_cons_succ, List.getElem_toArray, List.getElem_cons_zero, List.getElem_cons_succ]
            refine RG.RunsIf.weak (v := ?_) (by rfl) (by rfl) (fun Z hT => ?_) ?_
            rotate_left
            · go_simp
              rfl
            simp only [Act.put, List.setIfInBounds_toArray, List.set_cons_zero, List.set_cons_succ, List.getElem_toArray, List.getElem_cons_zero, List.getElem_cons_succ]
            refine RG.RunsIf.weak (v := ?_) (by rfl) (by rfl) (fun Z hT => ?_) ?_
            rotate_left
            · go_simp
              rfl
            simp only [Act.put, List.setIfInBounds_toArray, List.set_cons_zero, List.set_cons_succ, List.getElem_toArray, List.getElem_cons_zero, List.getElem_cons_succ]
            refine RG.RunsIf.weak (v := .pointer (some ⟨g1, 5 * 16, none⟩)) (by rfl) (by rfl) (fun Z hT => exec_indexAt 44 _ _ (by rfl) g1 11 cap1 5 16 34 (by rfl) (by rfl) (by decide) Tryd.underlying44 sizeS) ?_
            simp only [Act.put, List.setIfInBounds_toArray, List.set_cons_zero, List.set_cons_succ, List.getElem_toArray, List.getElem_cons_zero, List.getElem_cons_succ]
            refine RG.RunsIf.weak (by rfl) (by rfl) (fun Z hT => exec_load_mid 34 _ (by rfl) (g1) (5 * 16) (by rfl) (X (roundsL (beginL hs n la no) ms 5)) _ (hT.1 5 (by decide)) Tryd.underlying34 rfl (IXA.out 5)) ?_
            simp only [Act.put, List.setIfInBounds_toArray, List.set_cons_zero, List.set_cons_succ, List.getElem_toArray, List.getElem_cons_zero, List.getElem_cons_succ]
            refine RG.RunsIf.weak (v := ?_) (by rfl) (by rfl) (fun Z hT => ?_) ?_
            rotate_left
            · go_simp
              rfl
            simp only [Act.put, List.setIfInBounds_toArray, List.set_cons_zero, List.set_cons_succ, List.getElem_toArray, List.getElem_cons_zero, List.getElem_cons_succ]
            refine RG.RunsIf.weak (v := .pointer (some ⟨g2, 5 * 16, none⟩)) (by rfl) (by rfl) (fun Z hT => exec_indexAt 44 _ _ (by rfl) g2 11 cap2 5 16 34 (by rfl) (by rfl) (by decide) Tryd.underlying44 sizeS) ?_
            simp only [Act.put, List.setIfInBounds_toArray, List.set_cons_zero, List.set_cons_succ, List.getElem_toArray, List.getElem_cons_zero, List.getElem_cons_succ]
            refine RG.RunsIf.weak (by rfl) (by rfl) (fun Z hT => exec_load_mid 34 _ (by rfl) (g2) (5 * 16) (by rfl) (X (roundsL (beginL hs' n' la' no') ms 5)) _ (hT.2.1 5 (by decide)) Tryd.underlying34 rfl (IXB.out 5)) ?_
            simp only [Act.put, List.setIfInBounds_toArray, List.set_cons_zero, List.set_cons_succ, List.getElem_toArray, List.getElem_cons_zero, List.getElem_cons_succ]
            refine RG.RunsIf.weak (v := .bool false) (by rfl) (by rfl) (fun Z hT => ?_) ?_
            · have q := Q5.out Z
              rw [HE.out] at q
              go_simp
            simp only [Act.put, List.setIfInBounds_toArray, List.set_cons_zero, List.set_cons_succ, List.getElem_toArray, List.getElem_cons_zero, List.getElem_cons_succ]
            refine RG.RunsIf.weak (v := ?_) (by rfl) (by rfl) (fun Z hT => ?_) ?_
            rotate_left
            · go_simp
              rfl
            simp only [Act.put, List.setIfInBounds_toArray, List.set_cons_zero, List.set_cons_succ, List.getElem_toArray, List.getElem_cons_zero, List.getElem_cons_succ]
            refine RG.RunsIf.weak (v := ?_) (by rfl) (by rfl) (fun Z hT => ?_) ?_
            rotate_left
            · go_simp
              rfl
            simp only [Act.put, List.setIfInBounds_toArray, List.set_cons_zero, List.set_cons_succ, List.getElem_toArray, List.getElem_cons_zero, List.getElem_cons_succ]
            refine RG.RunsIf.weak (v := ?_) (by rfl) (by rfl) (fun Z hT => ?_) ?_
            rotate_left
            · go_simp
              rfl
            simp only [Act.put, List.setIfInBounds_toArray, List.set_cons_zero, List.set_cons_succ, List.getElem_toArray, List.getElem_cons_zero, List.getElem_cons_succ]
            exact RG.RunsIf.nil
          refine RG.wpL_step (i := 20) (by kernel_rfl) (by rfl) (by rfl) (fun KX hK => ?_)
          have HK := TW.hide hK
          clear hK
          go_simp
          refine HK.out _ _ HTb.out (fun _ => trivial) ?_
          clear HK KX
          refine RG.wpL_done (by kernel_rfl) ?_ _
          refine NoPanic.normal ?_
          go_wp2
          go_ret
          exact ⟨rfl, HTb.out.2.2⟩
      · have f2 : (n == n') = true := by simp [e2]
        have f3 : (la == la') = false := by simp [e3]
        have HE : Hid (E = false) := by
          show _ = _
          rw [← HE0.out]; simp [e3]
        clear e1 e2 e3
        go_wp2_with (first | (refine wpList_load_mid (by rfl) 23 _ (by rfl) (B) 0 (by rfl) (hs.map (Value.int .u32)) _ (HSC.out _ _ N0.out).1 Tryd.underlying23 rfl I8.out ?_) | (refine wpList_load_row (by rfl) 23 _ (by rfl) (g) (by rfl) 23 (K .u32 hs') (0, 0) _ NG.out Tryd.underlying23 rfl K8.out ?_))
        refine HK.out _ _ ?_
        clear HK KK q8 c0 c1 c2 N0 NG NB
        refine wp_seq ?_
        refine wp_region_noPanic ?_
        refine RG.wp_region_L (fun Z => True) (fun Z => (∀ j, j < 11 → Z.rangeAt g1 (j * 16) (X (roundsL (beginL hs n la no) ms j))) ∧ (∀ j, j < 11 → Z.rangeAt g2 (j * 16) (X (roundsL (beginL hs' n' la' no') ms j))) ∧ Below B w Z) [] (by kernel_rfl) ?_
        refine RG.wpL_any fun Yc hY => ?_
        have HTc : Hid ((∀ j, j < 11 → Yc.rangeAt g1 (j * 16) (X (roundsL (beginL hs n la no) ms j))) ∧ (∀ j, j < 11 → Yc.rangeAt g2 (j * 16) (X (roundsL (beginL hs' n' la' no') ms j))) ∧ Below B w Yc) := by rw [hY]; exact ⟨HT.out.1, HT.out.2.1, below_drewN HT.out.2.2 1⟩
        clear hY
        refine RG.wpL_take (fuel := 1) (a' := ?Ac) [0, 1, 2, 3, 4, 5, 6, 7, 8, 9, 10, 11, 12, 13, 14, 15, 16, 17, 18, 19] (by kernel_rfl) (by kernel_rfl) (fun _ _ _ _ _ h => h) HTc.out (fun _ => trivial) ?rc ?_
        case rc =>
          refine RG.RunsIf.weak (v := ?_) (by rfl) (by rfl) (fun Z hT => ?_) ?_
          rotate_left
          · go_simp
            rfl
          simp only [Act.put, List.setIfInBounds_toArray, List.set_cons_zero, List.set_cons_succ, List.getElem_toArray, List.getElem_cons_zero, List.getElem_cons_succ]
          refine RG.RunsIf.weak (v := .pointer (some ⟨g1, 10 * 16, none⟩)) (by rfl) (by rfl) (fun Z hT => exec_indexAt 44 _ _ (by rfl) g1 11 cap1 10 16 34 (by rfl) (by rfl) (by decide) Tryd.underlying44 sizeS) ?_
          simp only [Act.put, List.setIfInBounds_toArray, List.set_cons_zero, List.set_cons_succ, List.getElem_toArray, List.getElem_cons_zero, List.getElem_cons_succ]
          refine RG.RunsIf.weak (by rfl) (by rfl) (fun Z hT => exec_load_mid 34 _ (by rfl) (g1) (10 * 16) (by rfl) (X (roundsL (beginL hs n la no) ms 10)) _ (hT.1 10 (by decide)) Tryd.underlying34 rfl (IXA.out 10)) ?_
          simp only [Act.put, List.setIfInBounds_toArray, List.set_cons_zero, List.set_cons_succ, List.getElem_toArray, List.getElem_cons_zero, List.getElem_cons_succ]
          refine RG.RunsIf.weak (v := ?_) (by rfl) (by rfl) (fun Z hT => ?_) ?_
          rotate_left
          · go_simp
            rfl
          simp only [Act.put, List.setIfInBounds_toArray, List.set_cons_zero, List.set_cons_succ, List.getElem_toArray, List.getElem_cons_zero, List.getElem_cons_succ]
          refine RG.RunsIf.weak (v := .pointer (some ⟨g2, 10 * 16, none⟩)) (by rfl) (by rfl) (fun Z hT => exec_indexAt 44 _ _ (by rfl) g2 11 cap2 10 16 34 (by rfl) (by rfl) (by decide) Tryd.underlying44 sizeS) ?_
          simp only [Act.put, List.setIfInBounds_toArray, List.set_cons_zero, List.set_cons_succ, List.getElem_toArray, List.getElem_cons_zero, List.getElem_cons_succ]
          refine RG.RunsIf.weak (by rfl) (by rfl) (fun Z hT => exec_load_mid 34 _ (by rfl) (g2) (10 * 16) (by rfl) (X (roundsL (beginL hs' n' la' no') ms 10)) _ (hT.2.1 10 (by decide)) Tryd.underlying34 rfl (IXB.out 10)) ?_
          simp only [Act.put, List.setIfInBounds_toArray, List.set_cons_zero, List.set_cons_succ, List.getElem_toArray, List.getElem_cons_zero, List.getElem_cons_succ]
          refine RG.RunsIf.weak (v := .bool false) (by rfl) (by rfl) (fun Z hT => ?_) ?_
          · have q := Q10.out Z
            rw [HE.out] at q
            go_simp
          simp only [Act.put, List.setIfInBounds_toArray, List.set_cons_zero, List.set_cons_succ, List.getElem_toArray, List.getElem_cons_zero, List.getElem_cons_succ]
          refine RG.RunsIf.weak (v := ?_) (by rfl) (by rfl) (fun Z hT => ?_) ?_
          rotate_left
          · go_simp
            rfl
          simp only [Act.put, List.setIfInBounds_toArray, List.set_cons_zero, List.set_cons_succ, List.getElem_toArray, List.getElem_cons_zero, List.getElem_cons_succ]
          refine RG.RunsIf.weak (v := ?_) (by rfl) (by rfl) (fun Z hT => ?_) ?_
          rotate_left
          · go_simp
            rfl
          simp only [Act.put, List.setIfInBounds_toArray, List.set_cons_zero, List.set_cons_succ, List.getElem_toArray, List.getElem_cons_zero, List.getElem_cons_succ]
          refine RG.RunsIf.weak (v := ?_) (by rfl) (by rfl) (fun Z hT => ?_) ?_
          rotate_left
          · go_simp
            rfl
          simp only [Act.put, List.setIfInBounds_toArray, List.set_cons_zero, List.set_cons_succ, List.getElem_toArray, List.getElem_cons_zero, List.getElem_cons_succ]
          refine RG.RunsIf.weak (v := ?_) (by rfl) (by rfl) (fun Z hT => ?_) ?_
          rotate_left
          · go_simp
            rfl
          simp only [Act.put, List.setIfInBounds_toArray, List.set_cons_zero, List.set_cons_succ, List.getElem_toArray, List.getElem_cons_zero, List.getElem_cons_succ]
          refine RG.RunsIf.weak (v := .pointer (some ⟨g1, 5 * 16, none⟩)) (by rfl) (by rfl) (fun Z hT => exec_indexAt 44 _ _ (by rfl) g1 11 cap1 5 16 34 (by rfl) (by rfl) (by decide) Tryd.underlying44 sizeS) ?_
          simp only [Act.put, List.setIfInBounds_toArray, List.set_cons_zero, List.set_cons_succ, List.getElem_toArray, List.getElem_cons_zero, List.getElem_cons_succ]
          refine RG.RunsIf.weak (by rfl) (by rfl) (fun Z hT => exec_load_mid 34 _ (by rfl) (g1) (5 * 16) (by rfl) (X (roundsL (beginL hs n la no) ms 5)) _ (hT.1 5 (by decide)) Tryd.underlying34 rfl (IXA.out 5)) ?_
          simp only [Act.put, List.setIfInBounds_toArray, List.set_cons_zero, List.set_cons_succ, List.getElem_toArray, List.getElem_cons_zero, List.getElem_cons_succ]
          refine RG.RunsIf.weak (v := ?_) (by rfl) (by rfl) (fun Z hT => ?_) ?_
          rotate_left
          · go_simp
            rfl
          simp only [Act.put, List.setIfInBounds_toArray, List.set_cons_zero, List.set_cons_succ, List.getElem_toArray, List.getElem_cons_zero, List.getElem_cons_succ]
          refine RG.RunsIf.weak (v := .pointer (some ⟨g2, 5 * 16, none⟩)) (by rfl) (by rfl) (fun Z hT => exec_indexAt 44 _ _ (by rfl) g2 11 cap2 5 16 34 (by rfl) (by rfl) (by decide) Tryd.underlying44 sizeS) ?_
          simp only [Act.put, List.setIfInBounds_toArray, List.set_cons_zero, List.set_cons_succ, List.getElem_toArray, List.getElem_cons_zero, List.getElem_cons_succ]
          refine RG.RunsIf.weak (by rfl) (by rfl) (fun Z hT => exec_load_mid 34 _ (by rfl) (g2) (5 * 16) (by rfl) (X (roundsL (beginL hs' n' la' no') ms 5)) _ (hT.2.1 5 (by decide)) Tryd.underlying34 rfl (IXB.out 5)) ?_
          simp only [Act.put, List.setIfInBounds_toArray, List.set_cons_zero, List.set_cons_succ, List.getElem_toArray, List.getElem_cons_zero, List.getElem_cons_succ]
          refine RG.RunsIf.weak (v := .bool false) (by rfl) (by rfl) (fun Z hT => ?_) ?_
          · have q := Q5.out Z
            rw [HE.out] at q
            go_simp
          simp only [Act.put, List.setIfInBounds_toArray, List.set_cons_zero, List.set_cons_succ, List.getElem_toArray, List.getElem_cons_zero, List.getElem_cons_succ]
          refine RG.RunsIf.weak (v := ?_) (by rfl) (by rfl) (fun Z hT => ?_) ?_
          rotate_left
          · go_simp
            rfl
          simp only [Act.put, List.setIfInBounds_toArray, List.set_cons_zero, List.set_cons_succ, List.getElem_toArray, List.getElem_cons_zero, List.getElem_cons_succ]
          refine RG.RunsIf.weak (v := ?_) (by rfl) (by rfl) (fun Z hT => ?_) ?_
          rotate_left
          · go_simp
            rfl
          simp only [Act.put, List.setIfInBounds_toArray, List.set_cons_zero, List.set_cons_succ, List.getElem_toArray, List.getElem_cons_zero, List.getElem_cons_succ]
          refine RG.RunsIf.weak (v := ?_) (by rfl) (by rfl) (fun Z hT => ?_) ?_
          rotate_left
          · go_simp
            rfl
          simp only [Act.put, List.setIfInBounds_toArray, List.set_cons_zero, List.set_cons_succ, List.getElem_toArray, List.getElem_cons_zero, List.getElem_cons_succ]
          exact RG.RunsIf.nil
        refine RG.wpL_step (i := 20) (by kernel_rfl) (by rfl) (by rfl) (fun KX hK => ?_)
        have HK := TW.hide hK
        clear hK
        go_simp
        refine HK.out _ _ HTc.out (fun _ => trivial) ?_
        clear HK KX
        refine RG.wpL_done (by kernel_rfl) ?_ _
        refine NoPanic.normal ?_
        go_wp2
        go_ret
        exact ⟨rfl, HTc.out.2.2⟩
    · have f2 : (n == n') = false := by simp [e2]
      have HE : Hid (E = false) := by
        show _ = _
        rw [← HE0.out]; simp [e2]
      clear e1 e2
      go_wp2_with (first | (refine wpList_load_mid (by rfl) 23 _ (by rfl) (B) 0 (by rfl) (hs.map (Value.int .u32)) _ (HSC.out _ _ N0.out).1 Tryd.underlying23 rfl I8.out ?_) | (refine wpList_load_row (by rfl) 23 _ (by rfl) (g) (by rfl) 23 (K .u32 hs') (0, 0) _ NG.out Tryd.underlying23 rfl K8.out ?_))
      refine HK.out _ _ ?_
      clear HK KK q8 c0 c1 c2 N0 NG NB
      refine wp_seq ?_
      refine wp_region_noPanic ?_
      refine RG.wp_region_L (fun Z => True) (fun Z => (∀ j, j < 11 → Z.rangeAt g1 (j * 16) (X (roundsL (beginL hs n la no) ms j))) ∧ (∀ j, j < 11 → Z.rangeAt g2 (j * 16) (X (roundsL (beginL hs' n' la' no') ms j))) ∧ Below B w Z) [] (by kernel_rfl) ?_
      refine RG.wpL_any fun Yd hY => ?_
      have HTd : Hid ((∀ j, j < 11 → Yd.rangeAt g1 (j * 16) (X (roundsL (beginL hs n la no) ms j))) ∧ (∀ j, j < 11 → Yd.rangeAt g2 (j * 16) (X (roundsL (beginL hs' n' la' no') ms j))) ∧ Below B w Yd) := by rw [hY]; exact ⟨HT.out.1, HT.out.2.1, below_drewN HT.out.2.2 1⟩
      clear hY
      refine RG.wpL_take (fuel := 1) (a' := ?Ad) [0, 1, 2, 3, 4, 5, 6, 7, 8, 9, 10, 11, 12, 13, 14, 15, 16, 17, 18, 19] (by kernel_rfl) (by kernel_rfl) (fun _ _ _ _ _ h => h) HTd.out (fun _ => trivial) ?rd ?_
      case rd =>
        refine RG.RunsIf.weak (v := ?_) (by rfl) (by rfl) (fun Z hT => ?_) ?_
        rotate_left
        · go_simp
          rfl
        simp only [Act.put, List.setIfInBounds_toArray, List.set_cons_zero, List.set_cons_succ, List.getElem_toArray, List.getElem_cons_zero, List.getElem_cons_succ]
        refine RG.RunsIf.weak (v := .pointer (some ⟨g1, 10 * 16, none⟩)) (by rfl) (by rfl) (fun Z hT => exec_indexAt 44 _ _ (by rfl) g1 11 cap1 10 16 34 (by rfl) (by rfl) (by decide) Tryd.underlying44 sizeS) ?_
        simp only [Act.put, List.setIfInBounds_toArray, List.set_cons_zero, List.set_cons_succ, List.getElem_toArray, List.getElem_cons_zero, List.getElem_cons_succ]
        refine RG.RunsIf.weak (by rfl) (by rfl) (fun Z hT => exec_load_mid 34 _ (by rfl) (g1) (10 * 16) (by rfl) (X (roundsL (beginL hs n la no) ms 10)) _ (hT.1 10 (by decide)) Tryd.underlying34 rfl (IXA.out 10)) ?_
        simp only [Act.put, List.setIfInBounds_toArray, List.set_cons_zero, List.set_cons_succ, List.getElem_toArray, List.getElem_cons_zero, List.getElem_cons_succ]
        refine RG.RunsIf.weak (v := ?_) (by rfl) (by rfl) (fun Z hT => ?_) ?_
        rotate_left
        · go_simp
          rfl
        simp only [Act.put, List.setIfInBounds_toArray, List.set_cons_zero, List.set_cons_succ, List.getElem_toArray, List.getElem_cons_zero, List.getElem_cons_succ]
        refine RG.RunsIf.weak (v := .pointer (some ⟨g2, 10 * 16, none⟩)) (by rfl) (by rfl) (fun Z hT => exec_indexAt 44 _ _ (by rfl) g2 11 cap2 10 16 34 (by rfl) (by rfl) (by decide) Tryd.underlying44 sizeS) ?_
        simp only [Act.put, List.setIfInBounds_toArray, List.set_cons_zero, List.set_cons_succ, List.getElem_toArray, List.getElem_cons_zero, List.getElem_cons_succ]
        refine RG.RunsIf.weak (by rfl) (by rfl) (fun Z hT => exec_load_mid 34 _ (by rfl) (g2) (10 * 16) (by rfl) (X (roundsL (beginL hs' n' la' no') ms 10)) _ (hT.2.1 10 (by decide)) Tryd.underlying34 rfl (IXB.out 10)) ?_
        simp only [Act.put, List.setIfInBounds_toArray, List.set_cons_zero, List.set_cons_succ, List.getElem_toArray, List.getElem_cons_zero, List.getElem_cons_succ]
        refine RG.RunsIf.weak (v := .bool false) (by rfl) (by rfl) (fun Z hT => ?_) ?_
        · have q := Q10.out Z
          rw [HE.out] at q
          go_simp
        simp only [Act.put, List.setIfInBounds_toArray, List.set_cons_zero, List.set_cons_succ, List.getElem_toArray, List.getElem_cons_zero, List.getElem_cons_succ]
        refine RG.RunsIf.weak (v := ?_) (by rfl) (by rfl) (fun Z hT => ?_) ?_
        rotate_left
        · go_simp
          rfl
        simp only [Act.put, List.setIfInBounds_toArray, List.set_cons_zero, List.set_cons_succ, List.getElem_toArray, List.getElem_cons_zero, List.getElem_cons_succ]
        refine RG.RunsIf.weak (v := ?_) (by rfl) (by rfl) (fun Z hT => ?_) ?_
        rotate_left
        · go_simp
          rfl
        simp only [Act.put, List.setIfInBounds_toArray, List.set_cons_zero, List.set_cons_succ, List.getElem_toArray, List.getElem_cons_zero, List.getElem_cons_succ]
        refine RG.RunsIf.weak (v := ?_) (by rfl) (by rfl) (fun Z hT => ?_) ?_
        rotate_left
        · go_simp
          rfl
        simp only [Act.put, List.setIfInBounds_toArray, List.set_cons_zero, List.set_cons_succ, List.getElem_toArray, List.getElem_cons_zero, List.getElem_cons_succ]
        refine RG.RunsIf.weak (v := ?_) (by rfl) (by rfl) (fun Z hT => ?_) ?_
        rotate_left
        · go_simp
          rfl
        simp only [Act.put, List.setIfInBounds_toArray, List.set_cons_zero, List.set_cons_succ, List.getElem_toArray, List.getElem_cons_zero, List.getElem_cons_succ]
        refine RG.RunsIf.weak (v := .pointer (some ⟨g1, 5 * 16, none⟩)) (by rfl) (by rfl) (fun Z hT => exec_indexAt 44 _ _ (by rfl) g1 11 cap1 5 16 34 (by rfl) (by rfl) (by decide) Tryd.underlying44 sizeS) ?_
        simp only [Act.put, List.setIfInBounds_toArray, List.set_cons_zero, List.set_cons_succ, List.getElem_toArray, List.getElem_cons_zero, List.getElem_cons_succ]
        refine RG.RunsIf.weak (by rfl) (by rfl) (fun Z hT => exec_load_mid 34 _ (by rfl) (g1) (5 * 16) (by rfl) (X (roundsL (beginL hs n la no) ms 5)) _ (hT.1 5 (by decide)) Tryd.underlying34 rfl (IXA.out 5)) ?_
        simp only [Act.put, List.setIfInBounds_toArray, List.set_cons_zero, List.set_cons_succ, List.getElem_toArray, List.getElem_cons_zero, List.getElem_cons_succ]
        refine RG.RunsIf.weak (v := ?_) (by rfl) (by rfl) (fun Z hT => ?_) ?_
        rotate_left
        · go_simp
          rfl
        simp only [Act.put, List.setIfInBounds_toArray, List.set_cons_zero, List.set_cons_succ, List.getElem_toArray, List.getElem_cons_zero, List.getElem_cons_succ]
        refine RG.RunsIf.weak (v := .pointer (some ⟨g2, 5 * 16, none⟩)) (by rfl) (by rfl) (fun Z hT => exec_indexAt 44 _ _ (by rfl) g2 11 cap2 5 16 34 (by rfl) (by rfl) (by decide) Tryd.underlying44 sizeS) ?_
        simp only [Act.put, List.setIfInBounds_toArray, List.set_cons_zero, List.set_cons_succ, List.getElem_toArray, List.getElem_cons_zero, List.getElem_cons_succ]
        refine RG.RunsIf.weak (by rfl) (by rfl) (fun Z hT => exec_load_mid 34 _ (by rfl) (g2) (5 * 16) (by rfl) (X (roundsL (beginL hs' n' la' no') ms 5)) _ (hT.2.1 5 (by decide)) Tryd.underlying34 rfl (IXB.out 5)) ?_
        simp only [Act.put, List.setIfInBounds_toArray, List.set_cons_zero, List.set_cons_succ, List.getElem_toArray, List.getElem_cons_zero, List.getElem_cons_succ]
        refine RG.RunsIf.weak (v := .bool false) (by rfl) (by rfl) (fun Z hT => ?_) ?_
        · have q := Q5.out Z
          rw [HE.out] at q
          go_simp
        simp only [Act.put, List.setIfInBounds_toArray, List.set_cons_zero, List.set_cons_succ, List.getElem_toArray, List.getElem_cons_zero, List.getElem_cons_succ]
        refine RG.RunsIf.weak (v := ?_) (by rfl) (by rfl) (fun Z hT => ?_) ?_
        rotate_left
        · go_simp
          rfl
        simp only [Act.put, List.setIfInBounds_toArray, List.set_cons_zero, List.set_cons_succ, List.getElem_toArray, List.getElem_cons_zero, List.getElem_cons_succ]
        refine RG.RunsIf.weak (v := ?_) (by rfl) (by rfl) (fun Z hT => ?_) ?_
        rotate_left
        · go_simp
          rfl
        simp only [Act.put, List.setIfInBounds_toArray, List.set_cons_zero, List.set_cons_succ, List.getElem_toArray, List.getElem_cons_zero, List.getElem_cons_succ]
        refine RG.RunsIf.weak (v := ?_) (by rfl) (by rfl) (fun Z hT => ?_) ?_
        rotate_left
        · go_simp
          rfl
        simp only [Act.put, List.setIfInBounds_toArray, List.set_cons_zero, List.set_cons_succ, List.getElem_toArray, List.getElem_cons_zero, List.getElem_cons_succ]
        exact RG.RunsIf.nil
      refine RG.wpL_step (i := 20) (by kernel_rfl) (by rfl) (by rfl) (fun KX hK => ?_)
      have HK := TW.hide hK
      clear hK
      go_simp
      refine HK.out _ _ HTd.out (fun _ => trivial) ?_
      clear HK KX
      refine RG.wpL_done (by kernel_rfl) ?_ _
      refine NoPanic.normal ?_
      go_wp2
      go_ret
      exact ⟨rfl, HTd.out.2.2⟩
  · rw [decide_eq_false e1] at q8
    have HE : Hid (E = false) := by
      show _ = _
      rw [← HE0.out]; simp [e1]
    clear e1
    go_wp2_with (first | (refine wpList_load_mid (by rfl) 23 _ (by rfl) (B) 0 (by rfl) (hs.map (Value.int .u32)) _ (HSC.out _ _ N0.out).1 Tryd.underlying23 rfl I8.out ?_) | (refine wpList_load_row (by rfl) 23 _ (by rfl) (g) (by rfl) 23 (K .u32 hs') (0, 0) _ NG.out Tryd.underlying23 rfl K8.out ?_))
    refine HK.out _ _ ?_
    clear HK KK q8 c0 c1 c2 N0 NG NB
    refine wp_seq ?_
    refine wp_region_noPanic ?_
    refine RG.wp_region_L (fun Z => True) (fun Z => (∀ j, j < 11 → Z.rangeAt g1 (j * 16) (X (roundsL (beginL hs n la no) ms j))) ∧ (∀ j, j < 11 → Z.rangeAt g2 (j * 16) (X (roundsL (beginL hs' n' la' no') ms j))) ∧ Below B w Z) [] (by kernel_rfl) ?_
    refine RG.wpL_any fun Ye hY => ?_
    have HTe : Hid ((∀ j, j < 11 → Ye.rangeAt g1 (j * 16) (X (roundsL (beginL hs n la no) ms j))) ∧ (∀ j, j < 11 → Ye.rangeAt g2 (j * 16) (X (roundsL (beginL hs' n' la' no') ms j))) ∧ Below B w Ye) := by rw [hY]; exact ⟨HT.out.1, HT.out.2.1, below_drewN HT.out.2.2 1⟩
    clear hY
    refine RG.wpL_take (fuel := 1) (a' := ?Ae) [0, 1, 2, 3, 4, 5, 6, 7, 8, 9, 10, 11, 12, 13, 14, 15, 16, 17, 18, 19] (by kernel_rfl) (by kernel_rfl) (fun _ _ _ _ _ h => h) HTe.out (fun _ => trivial) ?re ?_
    case re =>
      refine RG.RunsIf.weak (v := ?_) (by rfl) (by rfl) (fun Z hT => ?_) ?_
      rotate_left
      · go_simp
        rfl
      simp only [Act.put, List.setIfInBounds_toArray, List.set_cons_zero, List.set_cons_succ, List.getElem_toArray, List.getElem_cons_zero, List.getElem_cons_succ]
      refine RG.RunsIf.weak (v := .pointer (some ⟨g1, 10 * 16, none⟩)) (by rfl) (by rfl) (fun Z hT => exec_indexAt 44 _ _ (by rfl) g1 11 cap1 10 16 34 (by rfl) (by rfl) (by decide) Tryd.underlying44 sizeS) ?_
      simp only [Act.put, List.setIfInBounds_toArray, List.set_cons_zero, List.set_cons_succ, List.getElem_toArray, List.getElem_cons_zero, List.getElem_cons_succ]
      refine RG.RunsIf.weak (by rfl) (by rfl) (fun Z hT => exec_load_mid 34 _ (by rfl) (g1) (10 * 16) (by rfl) (X (roundsL (beginL hs n la no) ms 10)) _ (hT.1 10 (by decide)) Tryd.underlying34 rfl (IXA.out 10)) ?_
      simp only [Act.put, List.setIfInBounds_toArray, List.set_cons_zero, List.set_cons_succ, List.getElem_toArray, List.getElem_cons_zero, List.getElem_cons_succ]
      refine RG.RunsIf.weak (v := ?_) (by rfl) (by rfl) (fun Z hT => ?_) ?_
      rotate_left
      · go_simp
        rfl
      simp only [Act.put, List.setIfInBounds_toArray, List.set_cons_zero, List.set_cons_succ, List.getElem_toArray, List.getElem_cons_zero, List.getElem_cons_succ]
      refine RG.RunsIf.weak (v := .pointer (some ⟨g2, 10 * 16, none⟩)) (by rfl) (by rfl) (fun Z hT => exec_indexAt 44 _ _ (by rfl) g2 11 cap2 10 16 34 (by rfl) (by rfl) (by decide) Tryd.underlying44 sizeS) ?_
      simp only [Act.put, List.setIfInBounds_toArray, List.set_cons_zero, List.set_cons_succ, List.getElem_toArray, List.getElem_cons_zero, List.getElem_cons_succ]
      refine RG.RunsIf.weak (by rfl) (by rfl) (fun Z hT => exec_load_mid 34 _ (by rfl) (g2) (10 * 16) (by rfl) (X (roundsL (beginL hs' n' la' no') ms 10)) _ (hT.2.1 10 (by decide)) Tryd.underlying34 rfl (IXB.out 10)) ?_
      simp only [Act.put, List.setIfInBounds_toArray, List.set_cons_zero, List.set_cons_succ, List.getElem_toArray, List.getElem_cons_zero, List.getElem_cons_succ]
      refine RG.RunsIf.weak (v := .bool false) (by rfl) (by rfl) (fun Z hT => ?_) ?_
      · have q := Q10.out Z
        rw [HE.out] at q
        go_simp
      simp only [Act.put, List.setIfInBounds_toArray, List.set_cons_zero, List.set_cons_succ, List.getElem_toArray, List.getElem_cons_zero, List.getElem_cons_succ]
      refine RG.RunsIf.weak (v := ?_) (by rfl) (by rfl) (fun Z hT => ?_) ?_
      rotate_left
      · go_simp
        rfl
      simp only [Act.put, List.setIfInBounds_toArray, List.set_cons_zero, List.set_cons_succ, List.getElem_toArray, List.getElem_cons_zero, List.getElem_cons_succ]
      refine RG.RunsIf.weak (v := ?_) (by rfl) (by rfl) (fun Z hT => ?_) ?_
      rotate_left
      · go_simp
        rfl
      simp only [Act.put, List.setIfInBounds_toArray, List.set_cons_zero, List.set_cons_succ, List.getElem_toArray, List.getElem_cons_zero, List.getElem_cons_succ]
      refine RG.RunsIf.weak (v := ?_) (by rfl) (by rfl) (fun Z hT => ?_) ?_
      rotate_left
      · go_simp
        rfl
      simp only [Act.put, List.setIfInBounds_toArray, List.set_cons_zero, List.set_cons_succ, List.getElem_toArray, List.getElem_cons_zero, List.getElem_cons_succ]
      refine RG.RunsIf.weak (v := ?_) (by rfl) (by rfl) (fun Z hT => ?_) ?_
      rotate_left
      · go_simp
        rfl
      simp only [Act.put, List.setIfInBounds_toArray, List.set_cons_zero, List.set_cons_succ, List.getElem_toArray, List.getElem_cons_zero, List.getElem_cons_succ]
      refine RG.RunsIf.weak (v := .pointer (some ⟨g1, 5 * 16, none⟩)) (by rfl) (by rfl) (fun Z hT => exec_indexAt 44 _ _ (by rfl) g1 11 cap1 5 16 34 (by rfl) (by rfl) (by decide) Tryd.underlying44 sizeS) ?_
      simp only [Act.put, List.setIfInBounds_toArray, List.set_cons_zero, List.set_cons_succ, List.getElem_toArray, List.getElem_cons_zero, List.getElem_cons_succ]
      refine RG.RunsIf.weak (by rfl) (by rfl) (fun Z hT => exec_load_mid 34 _ (by rfl) (g1) (5 * 16) (by rfl) (X (roundsL (beginL hs n la no) ms 5)) _ (hT.1 5 (by decide)) Tryd.underlying34 rfl (IXA.out 5)) ?_
      simp only [Act.put, List.setIfInBounds_toArray, List.set_cons_zero, List.set_cons_succ, List.getElem_toArray, List.getElem_cons_zero, List.getElem_cons_succ]
      refine RG.RunsIf.weak (v := ?_) (by rfl) (by rfl) (fun Z hT => ?_) ?_
      rotate_left
      · go_simp
        rfl
      simp only [Act.put, List.setIfInBounds_toArray, List.set_cons_zero, List.set_cons_succ, List.getElem_toArray, List.getElem_cons_zero, List.getElem_cons_succ]
      refine RG.RunsIf.weak (v := .pointer (some ⟨g2, 5 * 16, none⟩)) (by rfl) (by rfl) (fun Z hT => exec_indexAt 44 _ _ (by rfl) g2 11 cap2 5 16 34 (by rfl) (by rfl) (by decide) Tryd.underlying44 sizeS) ?_
      simp only [Act.put, List.setIfInBounds_toArray, List.set_cons_zero, List.set_cons_succ, List.getElem_toArray, List.getElem_cons_zero, List.getElem_cons_succ]
      refine RG.RunsIf.weak (by rfl) (by rfl) (fun Z hT => exec_load_mid 34 _ (by rfl) (g2) (5 * 16) (by rfl) (X (roundsL (beginL hs' n' la' no') ms 5)) _ (hT.2.1 5 (by decide)) Tryd.underlying34 rfl (IXB.out 5)) ?_
      simp only [Act.put, List.setIfInBounds_toArray, List.set_cons_zero, List.set_cons_succ, List.getElem_toArray, List.getElem_cons_zero, List.getElem_cons_succ]
      refine RG.RunsIf.weak (v := .bool false) (by rfl) (by rfl) (fun Z hT => ?_) ?_
      · have q := Q5.out Z
        rw [HE.out] at q
        go_simp
      simp only [Act.put, List.setIfInBounds_toArray, List.set_cons_zero, List.set_cons_succ, List.getElem_toArray, List.getElem_cons_zero, List.getElem_cons_succ]
      refine RG.RunsIf.weak (v := ?_) (by rfl) (by rfl) (fun Z hT => ?_) ?_
      rotate_left
      · go_simp
        rfl
      simp only [Act.put, List.setIfInBounds_toArray, List.set_cons_zero, List.set_cons_succ, List.getElem_toArray, List.getElem_cons_zero, List.getElem_cons_succ]
      refine RG.RunsIf.weak (v := ?_) (by rfl) (by rfl) (fun Z hT => ?_) ?_
      rotate_left
      · go_simp
        rfl
      simp only [Act.put, List.setIfInBounds_toArray, List.set_cons_zero, List.set_cons_succ, List.getElem_toArray, List.getElem_cons_zero, List.getElem_cons_succ]
      refine RG.RunsIf.weak (v := ?_) (by rfl) (by rfl) (fun Z hT => ?_) ?_
      rotate_left
      · go_simp
        rfl
      simp only [Act.put, List.setIfInBounds_toArray, List.set_cons_zero, List.set_cons_succ, List.getElem_toArray, List.getElem_cons_zero, List.getElem_cons_succ]
      exact RG.RunsIf.nil
    refine RG.wpL_step (i := 20) (by kernel_rfl) (by rfl) (by rfl) (fun KX hK => ?_)
    have HK := TW.hide hK
    clear hK
    go_simp
    refine HK.out _ _ HTe.out (fun _ => trivial) ?_
    clear HK KX
    refine RG.wpL_done (by kernel_rfl) ?_ _
    refine NoPanic.normal ?_
    go_wp2
    go_ret
    exact ⟨rfl, HTe.out.2.2⟩
end MX
end Go.Proofs.YtecepllidmkmhabDoor
