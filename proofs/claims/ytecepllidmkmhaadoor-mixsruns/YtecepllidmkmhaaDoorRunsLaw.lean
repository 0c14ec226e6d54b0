/-
  What the law MixsRuns does: Begin, End and F of the program answer as the document's.
-/
import Derived.Test.YtecepllidmkmhaaDoorFs
namespace Go.Proofs.YtecepllidmkmhaaDoor
open Go.RowKit
set_option linter.unusedVariables false
set_option linter.unusedSimpArgs false
namespace MX
open Turn
attribute [local go_sem ↓] Go.wp_at_zero Go.wp_at_succ
set_option maxRecDepth 100000 in
set_option maxHeartbeats 4000000 in
theorem runsWalk (hs ms : List Int) (n : Int) (la no : Bool) (V : List Int) (w : World) (to : Tab w 1 .u8 ordL) (ti : Tab w 0 .u32 ivL) (hl : hs.length = 8) (hm : ms.length = 16) (hw : Ws hs) (hM : Ws ms) (wn : 0 ≤ n) (wn' : n < 18446744073709551616) (hv : V.length = 16) (hV : Ws V) :
    Calls Tryd.prog 5 #[.agg (runC hs ms n la no), .agg (K .u32 V)] w fun e w' => e = .returned (.bool true) ∧ Below w.heap.size w w' := by
  have i8 : (Tryd.prog.info? 24).map (·.size) = some (hs.map (Value.int .u32)).length := by rw [List.length_map, hl]; kernel_rfl
  have i16 : (Tryd.prog.info? 26).map (·.size) = some (ms.map (Value.int .u32)).length := by rw [List.length_map, hm]; kernel_rfl
  have ivv := info16 V hv
  have hbl := beginL_length hs n la no hl
  have q1 := fun W => eq16 W (beginL hs n la no) (beginL hs n la no) hbl hbl
  have q2 := fun W => eq8 W (overL hs V) (overL hs V) (overL_length _ _) (overL_length _ _)
  have q3 := fun W => eq8 W (fL hs ms n la no) (fL hs ms n la no) (fL_length _ _ _ _ _) (fL_length _ _ _ _ _)
  simp only [decide_true] at q1 q2 q3
  have hsc := fun Z B => run_cell hs ms n la no hl hm Z B
  have p1 := fun Y (hb : Below w.heap.size w Y) => begin_ hs n la no Y (ti.below hb) hl hw wn wn'
  have p2 := fun Y => rbegin hs n la no Y hl hw wn wn'
  have p3 := fun Y => end_ hs V Y hl hv hw hV
  have p4 := fun Y => rend hs V Y hl hv hw hV
  have p5 := fun Y (hb : Below w.heap.size w Y) => fOk hs ms n la no Y (ti.below hb) (to.below hb) hl hm hw hM wn wn'
  have p6 := fun Y => rfOk hs ms n la no Y hl hm hw hM wn wn'
  generalize beginL hs n la no = b0 at *
  generalize overL hs V = o0 at *
  generalize fL hs ms n la no = f0 at *
  clear to ti hl hm hw hM wn wn' hv hV hbl
  have I8 := TW.hide i8
  have I16 := TW.hide i16
  have IVV := TW.hide ivv
  have Q1 := TW.hide q1
  have Q2 := TW.hide q2
  have Q3 := TW.hide q3
  have HSC := TW.hide hsc
  have P1 := TW.hide p1
  have P2 := TW.hide p2
  have P3 := TW.hide p3
  have P4 := TW.hide p4
  have P5 := TW.hide p5
  have P6 := TW.hide p6
  clear i8 i16 ivv q1 q2 q3 hsc p1 p2 p3 p4 p5 p6
  have hb := (((Below.refl w.heap.size w).alloc (Nat.le_refl _) (.cells (runC hs ms n la no) 48)).alloc (by simp; try omega) (.cells (K .u32 V) 26))
  have n0 := (blk_alloc (o' := .cells (K .u32 V) 26) (heap_new w (.cells (runC hs ms n la no) 48)))
  have n1 := (heap_new (w.alloc (.cells (runC hs ms n la no) 48)) (.cells (K .u32 V) 26))
  rw [show (w.alloc (.cells (runC hs ms n la no) 48)).heap.size = w.heap.size + 1 by simp] at n1
  go_enter Tryd.func5, Tryd.ntmps5
  refine wp_seq_k fun K hK => ?_
  have HK := TW.hide hK
  clear hK
  go_wp2
  refine HK.out _ _ ?_
  clear HK K
  change Code.wp _ _ _ _ ((w.alloc (.cells (runC hs ms n la no) 48)).alloc (.cells (K .u32 V) 26))
  generalize hWW : (w.alloc (.cells (runC hs ms n la no) 48)).alloc (.cells (K .u32 V) 26) = W at hb n0 n1 ⊢
  have hW : W.heap.size = w.heap.size + 1 + 1 := by rw [← hWW]; simp
  clear hWW
  generalize hB : w.heap.size = B at *
  have HT : Hid (W.heap[B]? = some (.cells (runC hs ms n la no) 48 (0, 0)) ∧ W.heap[B + 1]? = some (.cells (K .u32 V) 26 (0, 0)) ∧ Below B w W) := ⟨n0, n1, hb⟩
  clear n0 n1 hb hW hB
  refine wp_seq_k fun KK hK => ?_
  have HK0 := TW.hide hK
  clear hK
  refine wp_seq ?_
  refine wp_region_noPanic ?_
  refine RG.wp_region_L (fun Z => True) (fun Z => Z.heap[B]? = some (.cells (runC hs ms n la no) 48 (0, 0)) ∧ Z.heap[B + 1]? = some (.cells (K .u32 V) 26 (0, 0)) ∧ Below B w Z) [] (by kernel_rfl) ?_
  refine RG.wpL_any fun Ya hY => ?_
  have HTa : Hid (Ya.heap[B]? = some (.cells (runC hs ms n la no) 48 (0, 0)) ∧ Ya.heap[B + 1]? = some (.cells (K .u32 V) 26 (0, 0)) ∧ Below B w Ya) := by rw [hY]; exact ⟨HT.out.1, HT.out.2.1, below_drewN HT.out.2.2 1⟩
  clear hY
  refine RG.wpL_take (fuel := 3) (a' := ?Aa) [0, 1, 2, 3, 4, 5, 6, 7, 9, 10, 11, 12, 13, 14, 15, 16] (by kernel_rfl) (by kernel_rfl) (fun _ _ _ _ _ h => h) HTa.out (fun _ => trivial) ?ra ?_
  case ra =>
    refine RG.RunsIf.weak (v := ?_) (by rfl) (by rfl) (fun Z hT => ?_) ?_
    rotate_left
    · obtain ⟨_, _, c0, c1, c2⟩ := HSC.out Z B hT.1
      go_simp
      rfl
    simp only [Act.put, List.setIfInBounds_toArray, List.set_cons_zero, List.set_cons_succ, List.getElem_toArray, List.getElem_cons_zero, List.getElem_cons_succ]
    refine RG.RunsIf.weak (by rfl) (by rfl) (fun Z hT => exec_load_mid 24 _ (by rfl) (B) 0 (by rfl) (hs.map (Value.int .u32)) _ (HSC.out Z B hT.1).1 Tryd.underlying24 rfl I8.out) ?_
    simp only [Act.put, List.setIfInBounds_toArray, List.set_cons_zero, List.set_cons_succ, List.getElem_toArray, List.getElem_cons_zero, List.getElem_cons_succ]
    refine RG.RunsIf.weak (v := ?_) (by rfl) (by rfl) (fun Z hT => ?_) ?_
    rotate_left
    · obtain ⟨_, _, c0, c1, c2⟩ := HSC.out Z B hT.1
      go_simp
      rfl
    simp only [Act.put, List.setIfInBounds_toArray, List.set_cons_zero, List.set_cons_succ, List.getElem_toArray, List.getElem_cons_zero, List.getElem_cons_succ]
    refine RG.RunsIf.weak (v := ?_) (by rfl) (by rfl) (fun Z hT => ?_) ?_
    rotate_left
    · obtain ⟨_, _, c0, c1, c2⟩ := HSC.out Z B hT.1
      go_simp
      rfl
    simp only [Act.put, List.setIfInBounds_toArray, List.set_cons_zero, List.set_cons_succ, List.getElem_toArray, List.getElem_cons_zero, List.getElem_cons_succ]
    refine RG.RunsIf.weak (v := ?_) (by rfl) (by rfl) (fun Z hT => ?_) ?_
    rotate_left
    · obtain ⟨_, _, c0, c1, c2⟩ := HSC.out Z B hT.1
      go_simp
      rfl
    simp only [Act.put, List.setIfInBounds_toArray, List.set_cons_zero, List.set_cons_succ, List.getElem_toArray, List.getElem_cons_zero, List.getElem_cons_succ]
    refine RG.RunsIf.weak (v := ?_) (by rfl) (by rfl) (fun Z hT => ?_) ?_
    rotate_left
    · obtain ⟨_, _, c0, c1, c2⟩ := HSC.out Z B hT.1
      go_simp
      rfl
    simp only [Act.put, List.setIfInBounds_toArray, List.set_cons_zero, List.set_cons_succ, List.getElem_toArray, List.getElem_cons_zero, List.getElem_cons_succ]
    refine RG.RunsIf.weak (v := ?_) (by rfl) (by rfl) (fun Z hT => ?_) ?_
    rotate_left
    · obtain ⟨_, _, c0, c1, c2⟩ := HSC.out Z B hT.1
      go_simp
      rfl
    simp only [Act.put, List.setIfInBounds_toArray, List.set_cons_zero, List.set_cons_succ, List.getElem_toArray, List.getElem_cons_zero, List.getElem_cons_succ]
    refine RG.RunsIf.weak (v := ?_) (by rfl) (by rfl) (fun Z hT => ?_) ?_
    rotate_left
    · obtain ⟨_, _, c0, c1, c2⟩ := HSC.out Z B hT.1
      go_simp
      rfl
    simp only [Act.put, List.setIfInBounds_toArray, List.set_cons_zero, List.set_cons_succ, List.getElem_toArray, List.getElem_cons_zero, List.getElem_cons_succ]
    refine RG.RunsIf.weak (v := ?_) (by rfl) (by rfl) (fun Z hT => ?_) ?_
    rotate_left
    · obtain ⟨_, _, c0, c1, c2⟩ := HSC.out Z B hT.1
      go_simp
      rfl
    simp only [Act.put, List.setIfInBounds_toArray, List.set_cons_zero, List.set_cons_succ, List.getElem_toArray, List.getElem_cons_zero, List.getElem_cons_succ]
    refine RG.RunsIf.weak (by rfl) (by rfl) (fun Z hT => exec_load_mid 24 _ (by rfl) (B) 0 (by rfl) (hs.map (Value.int .u32)) _ (HSC.out Z B hT.1).1 Tryd.underlying24 rfl I8.out) ?_
    simp only [Act.put, List.setIfInBounds_toArray, List.set_cons_zero, List.set_cons_succ, List.getElem_toArray, List.getElem_cons_zero, List.getElem_cons_succ]
    refine RG.RunsIf.weak (v := ?_) (by rfl) (by rfl) (fun Z hT => ?_) ?_
    rotate_left
    · obtain ⟨_, _, c0, c1, c2⟩ := HSC.out Z B hT.1
      go_simp
      rfl
    simp only [Act.put, List.setIfInBounds_toArray, List.set_cons_zero, List.set_cons_succ, List.getElem_toArray, List.getElem_cons_zero, List.getElem_cons_succ]
    refine RG.RunsIf.weak (v := ?_) (by rfl) (by rfl) (fun Z hT => ?_) ?_
    rotate_left
    · obtain ⟨_, _, c0, c1, c2⟩ := HSC.out Z B hT.1
      go_simp
      rfl
    simp only [Act.put, List.setIfInBounds_toArray, List.set_cons_zero, List.set_cons_succ, List.getElem_toArray, List.getElem_cons_zero, List.getElem_cons_succ]
    refine RG.RunsIf.weak (v := ?_) (by rfl) (by rfl) (fun Z hT => ?_) ?_
    rotate_left
    · obtain ⟨_, _, c0, c1, c2⟩ := HSC.out Z B hT.1
      go_simp
      rfl
    simp only [Act.put, List.setIfInBounds_toArray, List.set_cons_zero, List.set_cons_succ, List.getElem_toArray, List.getElem_cons_zero, List.getElem_cons_succ]
    refine RG.RunsIf.weak (v := ?_) (by rfl) (by rfl) (fun Z hT => ?_) ?_
    rotate_left
    · obtain ⟨_, _, c0, c1, c2⟩ := HSC.out Z B hT.1
      go_simp
      rfl
    simp only [Act.put, List.setIfInBounds_toArray, List.set_cons_zero, List.set_cons_succ, List.getElem_toArray, List.getElem_cons_zero, List.getElem_cons_succ]
    refine RG.RunsIf.weak (v := ?_) (by rfl) (by rfl) (fun Z hT => ?_) ?_
    rotate_left
    · obtain ⟨_, _, c0, c1, c2⟩ := HSC.out Z B hT.1
      go_simp
      rfl
    simp only [Act.put, List.setIfInBounds_toArray, List.set_cons_zero, List.set_cons_succ, List.getElem_toArray, List.getElem_cons_zero, List.getElem_cons_succ]
    refine RG.RunsIf.weak (v := ?_) (by rfl) (by rfl) (fun Z hT => ?_) ?_
    rotate_left
    · obtain ⟨_, _, c0, c1, c2⟩ := HSC.out Z B hT.1
      go_simp
      rfl
    simp only [Act.put, List.setIfInBounds_toArray, List.set_cons_zero, List.set_cons_succ, List.getElem_toArray, List.getElem_cons_zero, List.getElem_cons_succ]
    exact RG.RunsIf.nil
  refine RG.wpL_step (i := 8) (by kernel_rfl) (by rfl) (by rfl) (fun KX hK => ?_)
  have HK := TW.hide hK
  clear hK
  go_simp
  refine (P1.out Ya HTa.out.2.2).mono ?_
  rintro e w1 ⟨rfl, hbw1⟩
  have Hw1 : Hid (w1.heap[B]? = some (.cells (runC hs ms n la no) 48 (0, 0)) ∧ w1.heap[B + 1]? = some (.cells (K .u32 V) 26 (0, 0)) ∧ Below B w w1) := ⟨blk_keep HTa.out.1 hbw1, blk_keep HTa.out.2.1 hbw1, below_row HTa.out.2.2 hbw1 (by have := blk_lt HTa.out.1; omega)⟩
  refine HK.out _ _ Hw1.out (fun _ => trivial) ?_
  clear HK KX hbw1 HTa
  refine RG.wpL_step (i := 17) (by kernel_rfl) (by rfl) (by rfl) (fun KX hK => ?_)
  have HK := TW.hide hK
  clear hK
  go_simp
  refine (P2.out w1).mono ?_
  rintro e w2 ⟨rfl, hbw2⟩
  have Hw2 : Hid (w2.heap[B]? = some (.cells (runC hs ms n la no) 48 (0, 0)) ∧ w2.heap[B + 1]? = some (.cells (K .u32 V) 26 (0, 0)) ∧ Below B w w2) := ⟨blk_keep Hw1.out.1 hbw2, blk_keep Hw1.out.2.1 hbw2, below_row Hw1.out.2.2 hbw2 (by have := blk_lt Hw1.out.1; omega)⟩
  refine HK.out _ _ Hw2.out (fun _ => trivial) ?_
  clear HK KX hbw2 Hw1
  have q := Q1.out
  refine RG.wpL_step (i := 18) (by kernel_rfl) (by rfl) (by rfl) (fun KX hK => ?_)
  have HK := TW.hide hK
  clear hK
  go_simp
  refine HK.out _ _ Hw2.out (fun _ => trivial) ?_
  clear HK KX q
  refine RG.wpL_done (by kernel_rfl) ?_ _
  refine NoPanic.normal ?_
  go_wp2
  refine HK0.out _ _ ?_
  clear HK0 KK
  refine wp_seq_k fun KK hK => ?_
  have HK0 := TW.hide hK
  clear hK
  refine wp_seq ?_
  refine wp_region_noPanic ?_
  refine RG.wp_region_L (fun Z => True) (fun Z => Z.heap[B]? = some (.cells (runC hs ms n la no) 48 (0, 0)) ∧ Z.heap[B + 1]? = some (.cells (K .u32 V) 26 (0, 0)) ∧ Below B w Z) [] (by kernel_rfl) ?_
  refine RG.wpL_any fun Yb hY => ?_
  have HTb : Hid (Yb.heap[B]? = some (.cells (runC hs ms n la no) 48 (0, 0)) ∧ Yb.heap[B + 1]? = some (.cells (K .u32 V) 26 (0, 0)) ∧ Below B w Yb) := by rw [hY]; exact ⟨Hw2.out.1, Hw2.out.2.1, below_drewN Hw2.out.2.2 1⟩
  clear hY
  refine RG.wpL_take (fuel := 3) (a' := ?Ab) [0, 1, 2, 4, 5, 6] (by kernel_rfl) (by kernel_rfl) (fun _ _ _ _ _ h => h) HTb.out (fun _ => trivial) ?rb ?_
  case rb =>
    refine RG.RunsIf.weak (v := ?_) (by rfl) (by rfl) (fun Z hT => ?_) ?_
    rotate_left
    · obtain ⟨_, _, c0, c1, c2⟩ := HSC.out Z B hT.1
      go_simp
      rfl
    simp only [Act.put, List.setIfInBounds_toArray, List.set_cons_zero, List.set_cons_succ, List.getElem_toArray, List.getElem_cons_zero, List.getElem_cons_succ]
    refine RG.RunsIf.weak (by rfl) (by rfl) (fun Z hT => exec_load_mid 24 _ (by rfl) (B) 0 (by rfl) (hs.map (Value.int .u32)) _ (HSC.out Z B hT.1).1 Tryd.underlying24 rfl I8.out) ?_
    simp only [Act.put, List.setIfInBounds_toArray, List.set_cons_zero, List.set_cons_succ, List.getElem_toArray, List.getElem_cons_zero, List.getElem_cons_succ]
    refine RG.RunsIf.weak (by rfl) (by rfl) (fun Z hT => exec_load_row' 26 _ (by rfl) (B + 1) (by rfl) 26 (K .u32 V) (0, 0) _ hT.2.1 Tryd.underlying26 rfl IVV.out) ?_
    simp only [Act.put, List.setIfInBounds_toArray, List.set_cons_zero, List.set_cons_succ, List.getElem_toArray, List.getElem_cons_zero, List.getElem_cons_succ]
    refine RG.RunsIf.weak (v := ?_) (by rfl) (by rfl) (fun Z hT => ?_) ?_
    rotate_left
    · obtain ⟨_, _, c0, c1, c2⟩ := HSC.out Z B hT.1
      go_simp
      rfl
    simp only [Act.put, List.setIfInBounds_toArray, List.set_cons_zero, List.set_cons_succ, List.getElem_toArray, List.getElem_cons_zero, List.getElem_cons_succ]
    refine RG.RunsIf.weak (by rfl) (by rfl) (fun Z hT => exec_load_mid 24 _ (by rfl) (B) 0 (by rfl) (hs.map (Value.int .u32)) _ (HSC.out Z B hT.1).1 Tryd.underlying24 rfl I8.out) ?_
    simp only [Act.put, List.setIfInBounds_toArray, List.set_cons_zero, List.set_cons_succ, List.getElem_toArray, List.getElem_cons_zero, List.getElem_cons_succ]
    refine RG.RunsIf.weak (by rfl) (by rfl) (fun Z hT => exec_load_row' 26 _ (by rfl) (B + 1) (by rfl) 26 (K .u32 V) (0, 0) _ hT.2.1 Tryd.underlying26 rfl IVV.out) ?_
    simp only [Act.put, List.setIfInBounds_toArray, List.set_cons_zero, List.set_cons_succ, List.getElem_toArray, List.getElem_cons_zero, List.getElem_cons_succ]
    exact RG.RunsIf.nil
  refine RG.wpL_step (i := 3) (by kernel_rfl) (by rfl) (by rfl) (fun KX hK => ?_)
  have HK := TW.hide hK
  clear hK
  go_simp
  refine (P3.out Yb).mono ?_
  rintro e w3 ⟨rfl, hbw3⟩
  have Hw3 : Hid (w3.heap[B]? = some (.cells (runC hs ms n la no) 48 (0, 0)) ∧ w3.heap[B + 1]? = some (.cells (K .u32 V) 26 (0, 0)) ∧ Below B w w3) := ⟨blk_keep HTb.out.1 hbw3, blk_keep HTb.out.2.1 hbw3, below_row HTb.out.2.2 hbw3 (by have := blk_lt HTb.out.1; omega)⟩
  refine HK.out _ _ Hw3.out (fun _ => trivial) ?_
  clear HK KX hbw3 HTb
  refine RG.wpL_step (i := 7) (by kernel_rfl) (by rfl) (by rfl) (fun KX hK => ?_)
  have HK := TW.hide hK
  clear hK
  go_simp
  refine (P4.out w3).mono ?_
  rintro e w4 ⟨rfl, hbw4⟩
  have Hw4 : Hid (w4.heap[B]? = some (.cells (runC hs ms n la no) 48 (0, 0)) ∧ w4.heap[B + 1]? = some (.cells (K .u32 V) 26 (0, 0)) ∧ Below B w w4) := ⟨blk_keep Hw3.out.1 hbw4, blk_keep Hw3.out.2.1 hbw4, below_row Hw3.out.2.2 hbw4 (by have := blk_lt Hw3.out.1; omega)⟩
  refine HK.out _ _ Hw4.out (fun _ => trivial) ?_
  clear HK KX hbw4 Hw3
  have q := Q2.out
  refine RG.wpL_step (i := 8) (by kernel_rfl) (by rfl) (by rfl) (fun KX hK => ?_)
  have HK := TW.hide hK
  clear hK
  go_simp
  refine HK.out _ _ Hw4.out (fun _ => trivial) ?_
  clear HK KX q
  refine RG.wpL_done (by kernel_rfl) ?_ _
  refine NoPanic.normal ?_
  go_wp2
  refine HK0.out _ _ ?_
  clear HK0 KK
  refine wp_seq ?_
  refine wp_region_noPanic ?_
  refine RG.wp_region_L (fun Z => True) (fun Z => Z.heap[B]? = some (.cells (runC hs ms n la no) 48 (0, 0)) ∧ Z.heap[B + 1]? = some (.cells (K .u32 V) 26 (0, 0)) ∧ Below B w Z) [] (by kernel_rfl) ?_
  refine RG.wpL_any fun Yc hY => ?_
  have HTc : Hid (Yc.heap[B]? = some (.cells (runC hs ms n la no) 48 (0, 0)) ∧ Yc.heap[B + 1]? = some (.cells (K .u32 V) 26 (0, 0)) ∧ Below B w Yc) := by rw [hY]; exact ⟨Hw4.out.1, Hw4.out.2.1, below_drewN Hw4.out.2.2 1⟩
  clear hY
  refine RG.wpL_take (fuel := 4) (a' := ?Ac) [0, 1, 2, 3, 4, 5, 6, 7, 8, 9, 11, 12, 13, 14, 15, 16, 17, 18, 19, 20] (by kernel_rfl) (by kernel_rfl) (fun _ _ _ _ _ h => h) HTc.out (fun _ => trivial) ?rc ?_
  case rc =>
    refine RG.RunsIf.weak (v := ?_) (by rfl) (by rfl) (fun Z hT => ?_) ?_
    rotate_left
    · obtain ⟨_, _, c0, c1, c2⟩ := HSC.out Z B hT.1
      go_simp
      rfl
    simp only [Act.put, List.setIfInBounds_toArray, List.set_cons_zero, List.set_cons_succ, List.getElem_toArray, List.getElem_cons_zero, List.getElem_cons_succ]
    refine RG.RunsIf.weak (by rfl) (by rfl) (fun Z hT => exec_load_mid 24 _ (by rfl) (B) 0 (by rfl) (hs.map (Value.int .u32)) _ (HSC.out Z B hT.1).1 Tryd.underlying24 rfl I8.out) ?_
    simp only [Act.put, List.setIfInBounds_toArray, List.set_cons_zero, List.set_cons_succ, List.getElem_toArray, List.getElem_cons_zero, List.getElem_cons_succ]
    refine RG.RunsIf.weak (v := ?_) (by rfl) (by rfl) (fun Z hT => ?_) ?_
    rotate_left
    · obtain ⟨_, _, c0, c1, c2⟩ := HSC.out Z B hT.1
      go_simp
      rfl
    simp only [Act.put, List.setIfInBounds_toArray, List.set_cons_zero, List.set_cons_succ, List.getElem_toArray, List.getElem_cons_zero, List.getElem_cons_succ]
    refine RG.RunsIf.weak (by rfl) (by rfl) (fun Z hT => exec_load_mid 26 _ (by rfl) (B) 8 (by rfl) (ms.map (Value.int .u32)) _ (HSC.out Z B hT.1).2.1 Tryd.underlying26 rfl I16.out) ?_
    simp only [Act.put, List.setIfInBounds_toArray, List.set_cons_zero, List.set_cons_succ, List.getElem_toArray, List.getElem_cons_zero, List.getElem_cons_succ]
    refine RG.RunsIf.weak (v := ?_) (by rfl) (by rfl) (fun Z hT => ?_) ?_
    rotate_left
    · obtain ⟨_, _, c0, c1, c2⟩ := HSC.out Z B hT.1
      go_simp
      rfl
    simp only [Act.put, List.setIfInBounds_toArray, List.set_cons_zero, List.set_cons_succ, List.getElem_toArray, List.getElem_cons_zero, List.getElem_cons_succ]
    refine RG.RunsIf.weak (v := ?_) (by rfl) (by rfl) (fun Z hT => ?_) ?_
    rotate_left
    · obtain ⟨_, _, c0, c1, c2⟩ := HSC.out Z B hT.1
      go_simp
      rfl
    simp only [Act.put, List.setIfInBounds_toArray, List.set_cons_zero, List.set_cons_succ, List.getElem_toArray, List.getElem_cons_zero, List.getElem_cons_succ]
    refine RG.RunsIf.weak (v := ?_) (by rfl) (by rfl) (fun Z hT => ?_) ?_
    rotate_left
    · obtain ⟨_, _, c0, c1, c2⟩ := HSC.out Z B hT.1
      go_simp
      rfl
    simp only [Act.put, List.setIfInBounds_toArray, List.set_cons_zero, List.set_cons_succ, List.getElem_toArray, List.getElem_cons_zero, List.getElem_cons_succ]
    refine RG.RunsIf.weak (v := ?_) (by rfl) (by rfl) (fun Z hT => ?_) ?_
    rotate_left
    · obtain ⟨_, _, c0, c1, c2⟩ := HSC.out Z B hT.1
      go_simp
      rfl
    simp only [Act.put, List.setIfInBounds_toArray, List.set_cons_zero, List.set_cons_succ, List.getElem_toArray, List.getElem_cons_zero, List.getElem_cons_succ]
    refine RG.RunsIf.weak (v := ?_) (by rfl) (by rfl) (fun Z hT => ?_) ?_
    rotate_left
    · obtain ⟨_, _, c0, c1, c2⟩ := HSC.out Z B hT.1
      go_simp
      rfl
    simp only [Act.put, List.setIfInBounds_toArray, List.set_cons_zero, List.set_cons_succ, List.getElem_toArray, List.getElem_cons_zero, List.getElem_cons_succ]
    refine RG.RunsIf.weak (v := ?_) (by rfl) (by rfl) (fun Z hT => ?_) ?_
    rotate_left
    · obtain ⟨_, _, c0, c1, c2⟩ := HSC.out Z B hT.1
      go_simp
      rfl
    simp only [Act.put, List.setIfInBounds_toArray, List.set_cons_zero, List.set_cons_succ, List.getElem_toArray, List.getElem_cons_zero, List.getElem_cons_succ]
    refine RG.RunsIf.weak (v := ?_) (by rfl) (by rfl) (fun Z hT => ?_) ?_
    rotate_left
    · obtain ⟨_, _, c0, c1, c2⟩ := HSC.out Z B hT.1
      go_simp
      rfl
    simp only [Act.put, List.setIfInBounds_toArray, List.set_cons_zero, List.set_cons_succ, List.getElem_toArray, List.getElem_cons_zero, List.getElem_cons_succ]
    refine RG.RunsIf.weak (by rfl) (by rfl) (fun Z hT => exec_load_mid 24 _ (by rfl) (B) 0 (by rfl) (hs.map (Value.int .u32)) _ (HSC.out Z B hT.1).1 Tryd.underlying24 rfl I8.out) ?_
    simp only [Act.put, List.setIfInBounds_toArray, List.set_cons_zero, List.set_cons_succ, List.getElem_toArray, List.getElem_cons_zero, List.getElem_cons_succ]
    refine RG.RunsIf.weak (v := ?_) (by rfl) (by rfl) (fun Z hT => ?_) ?_
    rotate_left
    · obtain ⟨_, _, c0, c1, c2⟩ := HSC.out Z B hT.1
      go_simp
      rfl
    simp only [Act.put, List.setIfInBounds_toArray, List.set_cons_zero, List.set_cons_succ, List.getElem_toArray, List.getElem_cons_zero, List.getElem_cons_succ]
    refine RG.RunsIf.weak (by rfl) (by rfl) (fun Z hT => exec_load_mid 26 _ (by rfl) (B) 8 (by rfl) (ms.map (Value.int .u32)) _ (HSC.out Z B hT.1).2.1 Tryd.underlying26 rfl I16.out) ?_
    simp only [Act.put, List.setIfInBounds_toArray, List.set_cons_zero, List.set_cons_succ, List.getElem_toArray, List.getElem_cons_zero, List.getElem_cons_succ]
    refine RG.RunsIf.weak (v := ?_) (by rfl) (by rfl) (fun Z hT => ?_) ?_
    rotate_left
    · obtain ⟨_, _, c0, c1, c2⟩ := HSC.out Z B hT.1
      go_simp
      rfl
    simp only [Act.put, List.setIfInBounds_toArray, List.set_cons_zero, List.set_cons_succ, List.getElem_toArray, List.getElem_cons_zero, List.getElem_cons_succ]
    refine RG.RunsIf.weak (v := ?_) (by rfl) (by rfl) (fun Z hT => ?_) ?_
    rotate_left
    · obtain ⟨_, _, c0, c1, c2⟩ := HSC.out Z B hT.1
      go_simp
      rfl
    simp only [Act.put, List.setIfInBounds_toArray, List.set_cons_zero, List.set_cons_succ, List.getElem_toArray, List.getElem_cons_zero, List.getElem_cons_succ]
    refine RG.RunsIf.weak (v := ?_) (by rfl) (by rfl) (fun Z hT => ?_) ?_
    rotate_left
    · obtain ⟨_, _, c0, c1, c2⟩ := HSC.out Z B hT.1
      go_simp
      rfl
    simp only [Act.put, List.setIfInBounds_toArray, List.set_cons_zero, List.set_cons_succ, List.getElem_toArray, List.getElem_cons_zero, List.getElem_cons_succ]
    refine RG.RunsIf.weak (v := ?_) (by rfl) (by rfl) (fun Z hT => ?_) ?_
    rotate_left
    · obtain ⟨_, _, c0, c1, c2⟩ := HSC.out Z B hT.1
      go_simp
      rfl
    simp only [Act.put, List.setIfInBounds_toArray, List.set_cons_zero, List.set_cons_succ, List.getElem_toArray, List.getElem_cons_zero, List.getElem_cons_succ]
    refine RG.RunsIf.weak (v := ?_) (by rfl) (by rfl) (fun Z hT => ?_) ?_
    rotate_left
    · obtain ⟨_, _, c0, c1, c2⟩ := HSC.out Z B hT.1
      go_simp
      rfl
    simp only [Act.put, List.setIfInBounds_toArray, List.set_cons_zero, List.set_cons_succ, List.getElem_toArray, List.getElem_cons_zero, List.getElem_cons_succ]
    refine RG.RunsIf.weak (v := ?_) (by rfl) (by rfl) (fun Z hT => ?_) ?_
    rotate_left
    · obtain ⟨_, _, c0, c1, c2⟩ := HSC.out Z B hT.1
      go_simp
      rfl
    simp only [Act.put, List.setIfInBounds_toArray, List.set_cons_zero, List.set_cons_succ, List.getElem_toArray, List.getElem_cons_zero, List.getElem_cons_succ]
    exact RG.RunsIf.nil
  refine RG.wpL_step (i := 10) (by kernel_rfl) (by rfl) (by rfl) (fun KX hK => ?_)
  have HK := TW.hide hK
  clear hK
  go_simp
  refine (P5.out Yc HTc.out.2.2).mono ?_
  rintro e w5 ⟨rfl, hbw5⟩
  have Hw5 : Hid (w5.heap[B]? = some (.cells (runC hs ms n la no) 48 (0, 0)) ∧ w5.heap[B + 1]? = some (.cells (K .u32 V) 26 (0, 0)) ∧ Below B w w5) := ⟨blk_keep HTc.out.1 hbw5, blk_keep HTc.out.2.1 hbw5, below_row HTc.out.2.2 hbw5 (by have := blk_lt HTc.out.1; omega)⟩
  refine HK.out _ _ Hw5.out (fun _ => trivial) ?_
  clear HK KX hbw5 HTc
  refine RG.wpL_step (i := 21) (by kernel_rfl) (by rfl) (by rfl) (fun KX hK => ?_)
  have HK := TW.hide hK
  clear hK
  go_simp
  refine (P6.out w5).mono ?_
  rintro e w6 ⟨rfl, hbw6⟩
  have Hw6 : Hid (w6.heap[B]? = some (.cells (runC hs ms n la no) 48 (0, 0)) ∧ w6.heap[B + 1]? = some (.cells (K .u32 V) 26 (0, 0)) ∧ Below B w w6) := ⟨blk_keep Hw5.out.1 hbw6, blk_keep Hw5.out.2.1 hbw6, below_row Hw5.out.2.2 hbw6 (by have := blk_lt Hw5.out.1; omega)⟩
  refine HK.out _ _ Hw6.out (fun _ => trivial) ?_
  clear HK KX hbw6 Hw5
  have q := Q3.out
  refine RG.wpL_step (i := 22) (by kernel_rfl) (by rfl) (by rfl) (fun KX hK => ?_)
  have HK := TW.hide hK
  clear hK
  go_simp
  refine HK.out _ _ Hw6.out (fun _ => trivial) ?_
  clear HK KX
  refine RG.wpL_step (i := 23) (by kernel_rfl) (by rfl) (by rfl) (fun KX hK => ?_)
  have HK := TW.hide hK
  clear hK
  go_simp
  refine HK.out _ _ Hw6.out (fun _ => trivial) ?_
  clear HK KX
  refine RG.wpL_done (by kernel_rfl) ?_ _
  refine NoPanic.normal ?_
  go_wp2
  go_ret
  exact ⟨rfl, Hw6.out.2.2⟩
end MX
end Go.Proofs.YtecepllidmkmhaaDoor
