/-
  What the law MixsUndone does: the last of the states leads back to all that F was handed, and F is the end of it.
-/
import Derived.Test.YtecepllidmkmhabDoorStRead
import Derived.Test.YtecepllidmkmhabDoorOpens
import Derived.Test.YtecepllidmkmhabDoorFs
import Derived.Test.YtecepllidmkmhabDoorPair
namespace Go.Proofs.YtecepllidmkmhabDoor
open Go.RowKit
set_option linter.unusedVariables false
set_option linter.unusedSimpArgs false
namespace MX
open Turn
attribute [local go_sem ↓] Go.wp_at_zero Go.wp_at_succ
theorem range_setRow {w : World} {g o b : Nat} {cs : List Value} {row : Array Value} (h : w.rangeAt b o cs) (hne : b ≠ g) : (w.setRow g row).rangeAt b o cs := fun j v hj => by
  have := h j v hj
  simp only [World.cell?, setRow_other _ _ _ _ hne] at this ⊢
  exact this
set_option maxRecDepth 100000 in
set_option maxHeartbeats 1000000 in
theorem undoneWalk (hs ms : List Int) (n : Int) (la no : Bool) (w : World) (to : Tab w 1 .u8 ordL) (ti : Tab w 0 .u32 ivL) (hl : hs.length = 8) (hm : ms.length = 16) (hw : Ws hs) (hM : Ws ms) (wn : 0 ≤ n) (wm : n < 18446744073709551616) :
    Calls Tryd.prog 5 #[.agg (runC hs ms n la no)] w fun e w' => e = .returned (.bool true) ∧ Below w.heap.size w w' := by
  have i8 : (Tryd.prog.info? 23).map (·.size) = some (hs.map (Value.int .u32)).length := by rw [List.length_map, hl]; kernel_rfl
  have i16 : (Tryd.prog.info? 34).map (·.size) = some (ms.map (Value.int .u32)).length := by rw [List.length_map, hm]; kernel_rfl
  have k8 := info8 hs hl
  have o8 := size8 (List.replicate 8 0) hs rfl hl
  have hvl := beginL_length hs n la no hl
  have hvw := beginL_Ws la no hw wn wm
  have hsc := fun Z B => run_cell hs ms n la no hl hm Z B
  have rl : ∀ j, (roundsL (beginL hs n la no) ms j).length = 16 := fun j => by rw [roundsL_length, hvl]
  have p1 := fun Y (hb : Below w.heap.size w Y) => states hs ms n la no Y (ti.below hb) (to.below hb) hl hm hw hM wn wm
  have p2 : ∀ (k : Nat) Y, k < 10 → Below w.heap.size w Y → Calls Tryd.prog 13 #[.agg (X (roundsL (beginL hs n la no) ms k)).toArray, .agg (ms.map (Value.int .u32)).toArray, .int .i64 k] Y fun e w' => e = .returned (.tuple #[.agg (K .u32 (roundsL (beginL hs n la no) ms (k + 1))), .int .i64 0]) ∧ Below Y.heap.size Y w' := fun k Y hk hb => roundOk (roundsL (beginL hs n la no) ms k) ms k Y (rl k) hm (roundsL_Ws ms k hvw) hM hk (to.below hb)
  have p3 : ∀ Y, Below w.heap.size w Y → Calls Tryd.prog 18 #[.agg (X (roundsL (beginL hs n la no) ms 10)).toArray, .agg (ms.map (Value.int .u32)).toArray] Y fun e w' => e = .returned (.tuple #[.agg (K .u32 hs), .int .u64 n, .bool la, .bool no, .bool true]) ∧ Below Y.heap.size Y w' := fun Y hb => by
    have h := openOk (roundsL (beginL hs n la no) ms 10) ms Y (to.below hb) (ti.below hb) (rl 10) hm (roundsL_Ws ms 10 hvw) hM
    rw [undo_all (beginL hs n la no) ms hvl hvw hM] at h
    simp only [opH, opN, opA, opB, opOk_begin hs n la no hl wn wm, if_true, Bool.true_and, rdH_begin hs n la no hl, rdN_begin hs n la no hl wn wm, rdA_begin hs n la no hl, rdB_begin hs n la no hl] at h
    exact h
  have p4 : ∀ Y, Below w.heap.size w Y → Calls Tryd.prog 19 #[.agg (hs.map (Value.int .u32)).toArray, .int .u64 n, .bool la, .bool no] Y fun e w' => e = .returned (.agg (K .u32 (beginL hs n la no))) ∧ Below Y.heap.size Y w' := fun Y hb => begin_ hs n la no Y (ti.below hb) hl hw wn wm
  have p5 : ∀ Y, Below w.heap.size w Y → Calls Tryd.prog 20 #[.agg (hs.map (Value.int .u32)).toArray, .agg (ms.map (Value.int .u32)).toArray, .int .u64 n, .bool la, .bool no] Y fun e w' => e = .returned (.agg (K .u32 (fL hs ms n la no))) ∧ Below Y.heap.size Y w' := fun Y hb => fOk hs ms n la no Y (ti.below hb) (to.below hb) hl hm hw hM wn wm
  have p6 : ∀ Y, Calls Tryd.prog 21 #[.agg (hs.map (Value.int .u32)).toArray, .agg (X (roundsL (beginL hs n la no) ms 10)).toArray] Y fun e w' => e = .returned (.agg (K .u32 (fL hs ms n la no))) ∧ Below Y.heap.size Y w' := fun Y => end_ hs (roundsL (beginL hs n la no) ms 10) Y hl (rl 10) hw (roundsL_Ws ms 10 hvw)
  have ixa : ∀ j, (Tryd.prog.info? 34).map (·.size) = some (X (roundsL (beginL hs n la no) ms j)).length := fun j => by rw [X_length, roundsL_length, hvl]; kernel_rfl
  have ika : ∀ j, (Tryd.prog.info? 34).map (·.size) = some (K .u32 (roundsL (beginL hs n la no) ms j)).size := fun j => info16 _ (rl j)
  have oka : ∀ j, (#[.int .u32 0, .int .u32 0, .int .u32 0, .int .u32 0, .int .u32 0, .int .u32 0, .int .u32 0, .int .u32 0, .int .u32 0, .int .u32 0, .int .u32 0, .int .u32 0, .int .u32 0, .int .u32 0, .int .u32 0, .int .u32 0] : Array Value).size = (K .u32 (roundsL (beginL hs n la no) ms j)).size := fun j => size16 (List.replicate 16 0) _ rfl (rl j)
  have q1 : ∀ (k : Nat) Z, (Op.equalIn 10000 34 (.agg (K .u32 (roundsL (beginL hs n la no) ms k))) (.agg (X (roundsL (beginL hs n la no) ms k)).toArray)).run Tryd.prog Z = .ok true Z := fun k Z => by
    have h := eq16 Z (roundsL (beginL hs n la no) ms k) (roundsL (beginL hs n la no) ms k) (rl k) (rl k)
    simp only [decide_true] at h
    exact h
  have q2 : ∀ Z, (Op.equalIn 10000 23 (.agg (K .u32 hs)) (.agg (hs.map (Value.int .u32)).toArray)).run Tryd.prog Z = .ok true Z := fun Z => by
    have h := eq8 Z hs hs hl hl
    simp only [decide_true] at h
    exact h
  have q3 : ∀ Z, (Op.equalIn 10000 34 (.agg (X (roundsL (beginL hs n la no) ms 0)).toArray) (.agg (K .u32 (beginL hs n la no)))).run Tryd.prog Z = .ok true Z := fun Z => by
    have h := eq16 Z (beginL hs n la no) (beginL hs n la no) hvl hvl
    simp only [decide_true] at h
    exact h
  have q4 : ∀ Z, (Op.equalIn 10000 23 (.agg (K .u32 (fL hs ms n la no))) (.agg (K .u32 (fL hs ms n la no)))).run Tryd.prog Z = .ok true Z := fun Z => by
    have h := eq8 Z (fL hs ms n la no) (fL hs ms n la no) (fL_length _ _ _ _ _) (fL_length _ _ _ _ _)
    simp only [decide_true] at h
    exact h
  clear to ti hl hm hw hM rl hvw
  have I8 := TW.hide i8
  have I16 := TW.hide i16
  have K8 := TW.hide k8
  have O8 := TW.hide o8
  have HVL := TW.hide hvl
  have HSC := TW.hide hsc
  have P1 := TW.hide p1
  have P2 := TW.hide p2
  have P3 := TW.hide p3
  have P4 := TW.hide p4
  have P5 := TW.hide p5
  have P6 := TW.hide p6
  have IXA := TW.hide ixa
  have IKA := TW.hide ika
  have OKA := TW.hide oka
  have Q1 := TW.hide q1
  have Q2 := TW.hide q2
  have Q3 := TW.hide q3
  have Q4 := TW.hide q4
  clear i8 i16 k8 o8 hvl hsc p1 p2 p3 p4 p5 p6 ixa ika oka q1 q2 q3 q4
  generalize hfl : fL hs ms n la no = fl at *
  clear hfl
  have hb := ((Below.refl w.heap.size w).alloc (Nat.le_refl _) (.cells (runC hs ms n la no) 43))
  have n0 := (heap_new w (.cells (runC hs ms n la no) 43))
  go_enter Tryd.func5, Tryd.ntmps5
  refine wp_seq_k fun K hK => ?_
  have HK := TW.hide hK
  clear hK
  go_wp2
  refine HK.out _ _ ?_
  clear HK K
  change Code.wp _ _ _ _ (w.alloc (.cells (runC hs ms n la no) 43))
  generalize hWW : w.alloc (.cells (runC hs ms n la no) 43) = W at hb n0 ⊢
  have hW : W.heap.size = w.heap.size + 1 := by rw [← hWW]; simp
  clear hWW
  generalize hB : w.heap.size = B at *
  have N0 := TW.hide n0
  have NB := TW.hide hb
  clear n0 hb
  clear hW
  refine wp_seq_k fun KK hK => ?_
  have HK := TW.hide hK
  clear hK
  obtain ⟨_, _, c0, c1, c2⟩ := HSC.out _ _ N0.out
  go_wp2_with (first | (refine wpList_load_mid (by rfl) 23 _ (by rfl) (B) 0 (by rfl) (hs.map (Value.int .u32)) _ (HSC.out _ _ N0.out).1 Tryd.underlying23 rfl I8.out ?_) | (refine wpList_load_mid (by rfl) 34 _ (by rfl) (B) 8 (by rfl) (ms.map (Value.int .u32)) _ (HSC.out _ _ N0.out).2.1 Tryd.underlying34 rfl I16.out ?_))
  clear c0 c1 c2
  refine (P1.out _ NB.out).mono ?_
  rintro e w1 ⟨v1, rfl, own1, hb1⟩
  obtain ⟨g1, cap1, rfl, hg1, hl1, hr1⟩ := own_state own1 HVL.out
  have HT : Hid (w1.heap[B]? = some (.cells (runC hs ms n la no) 43 (0, 0)) ∧ (∀ j, j < 11 → w1.rangeAt g1 (j * 16) (X (roundsL (beginL hs n la no) ms j))) ∧ g1 < w1.heap.size ∧ Below B w w1) := ⟨blk_keep N0.out hb1, hr1, hl1, below_row NB.out hb1 (by have := blk_lt N0.out; omega)⟩
  have hB1 : B < g1 := by have := blk_lt N0.out; omega
  clear own1 hb1 hr1 N0 NB hl1 hg1
  go_wp2
  refine HK.out _ _ ?_
  clear HK KK
  go_wp2
  go_loopw [4] (fun i wr => ∃ k : Nat, k ≤ 10 ∧ i = .int .i64 k ∧ wr.heap[B]? = some (.cells (runC hs ms n la no) 43 (0, 0)) ∧ (∀ j, j < 11 → wr.rangeAt g1 (j * 16) (X (roundsL (beginL hs n la no) ms j))) ∧ g1 < wr.heap.size ∧ Below B w wr) (fun i _ => 10 - (intOf i).toNat)
  case atStart => exact ⟨0, Nat.zero_le _, rfl, HT.out⟩
  case round =>
    rename_i Q1' K1 a1
    obtain ⟨k, hk, rfl, ht⟩ := hrel
    clear HT
    have HT : Hid (wr.heap[B]? = some (.cells (runC hs ms n la no) 43 (0, 0)) ∧ (∀ j, j < 11 → wr.rangeAt g1 (j * 16) (X (roundsL (beginL hs n la no) ms j))) ∧ g1 < wr.heap.size ∧ Below B w wr) := ht
    clear ht
    by_cases hlt : k < 10
    · have k1 : (k : Int) < 10 := by omega
      have k2 : IntKind.i64.wrap ((k : Int) + 1) = ((k + 1 : Nat) : Int) := by rw [IntKind.wrap_i64]; omega
      have hlt11 : k < 11 := by omega
      have hlt12 : k + 1 < 11 := by omega
      have pk := fun Y h => P2.out k Y hlt h
      have ik := IKA.out (k + 1)
      have ok' := OKA.out (k + 1)
      have qk := Q1.out (k + 1)
      have ixk := IXA.out (k + 1)
      obtain ⟨us, hus⟩ : ∃ us, roundsL (beginL hs n la no) ms (k + 1) = us := ⟨_, rfl⟩
      rw [hus] at pk ik ok' qk ixk
      have PK := TW.hide pk
      have IK := TW.hide ik
      have OK := TW.hide ok'
      have QK := TW.hide qk
      have IXK := TW.hide ixk
      have HUS := TW.hide hus
      clear pk ik ok' qk ixk hus
      go_wp2
      refine wp_region_noPanic ?_
      refine RG.wp_region_L (fun Z => True) (fun Z => Z.heap[B]? = some (.cells (runC hs ms n la no) 43 (0, 0)) ∧ (∀ j, j < 11 → Z.rangeAt g1 (j * 16) (X (roundsL (beginL hs n la no) ms j))) ∧ g1 < Z.heap.size ∧ Below B w Z) [] (by kernel_rfl) ?_
      refine RG.wpL_any fun Yb hY => ?_
      have HTb : Hid (Yb.heap[B]? = some (.cells (runC hs ms n la no) 43 (0, 0)) ∧ (∀ j, j < 11 → Yb.rangeAt g1 (j * 16) (X (roundsL (beginL hs n la no) ms j))) ∧ g1 < Yb.heap.size ∧ Below B w Yb) := by rw [hY]; exact ⟨HT.out.1, HT.out.2.1, HT.out.2.2.1, below_drewN HT.out.2.2.2 1⟩
      clear hY
      refine RG.wpL_take (fuel := 7) (a' := ?Ab) [0, 1, 2, 3, 4, 5, 6] (by kernel_rfl) (by kernel_rfl) (fun _ _ _ _ _ h => h) HTb.out (fun _ => trivial) ?rb ?_
      case rb =>
        refine RG.RunsIf.weak (v := ?_) (by rfl) (by rfl) (fun Z hT => ?_) ?_
        rotate_left
        · go_simp
          rfl
        simp only [Act.put, List.setIfInBounds_toArray, List.set_cons_zero, List.set_cons_succ, List.getElem_toArray, List.getElem_cons_zero, List.getElem_cons_succ]
        refine RG.RunsIf.weak (v := ?_) (by rfl) (by rfl) (fun Z hT => ?_) ?_
        rotate_left
        · go_simp
          rfl
        simp only [Act.put, List.setIfInBounds_toArray, List.set_cons_zero, List.set_cons_succ, List.getElem_toArray, List.getElem_cons_zero, List.getElem_cons_succ]
        refine RG.RunsIf.weak (v := .pointer (some ⟨g1, k * 16, none⟩)) (by rfl) (by rfl) (fun Z hT => exec_indexAt 44 _ _ (by rfl) g1 11 cap1 (k) 16 34 (by rfl) (by rfl) hlt11 Tryd.underlying44 sizeS) ?_
        simp only [Act.put, List.setIfInBounds_toArray, List.set_cons_zero, List.set_cons_succ, List.getElem_toArray, List.getElem_cons_zero, List.getElem_cons_succ]
        refine RG.RunsIf.weak (by rfl) (by rfl) (fun Z hT => exec_load_mid 34 _ (by rfl) (g1) (k * 16) (by rfl) (X (roundsL (beginL hs n la no) ms (k))) _ (hT.2.1 (k) hlt11) Tryd.underlying34 rfl (IXA.out (k))) ?_
        simp only [Act.put, List.setIfInBounds_toArray, List.set_cons_zero, List.set_cons_succ, List.getElem_toArray, List.getElem_cons_zero, List.getElem_cons_succ]
        refine RG.RunsIf.weak (v := ?_) (by rfl) (by rfl) (fun Z hT => ?_) ?_
        rotate_left
        · go_simp
          rfl
        simp only [Act.put, List.setIfInBounds_toArray, List.set_cons_zero, List.set_cons_succ, List.getElem_toArray, List.getElem_cons_zero, List.getElem_cons_succ]
        refine RG.RunsIf.weak (by rfl) (by rfl) (fun Z hT => exec_load_mid 34 _ (by rfl) (B) 8 (by rfl) (ms.map (Value.int .u32)) _ (HSC.out Z B hT.1).2.1 Tryd.underlying34 rfl I16.out) ?_
        simp only [Act.put, List.setIfInBounds_toArray, List.set_cons_zero, List.set_cons_succ, List.getElem_toArray, List.getElem_cons_zero, List.getElem_cons_succ]
        refine RG.RunsIf.weak (v := ?_) (by rfl) (by rfl) (fun Z hT => ?_) ?_
        rotate_left
        · go_simp
          rfl
        simp only [Act.put, List.setIfInBounds_toArray, List.set_cons_zero, List.set_cons_succ, List.getElem_toArray, List.getElem_cons_zero, List.getElem_cons_succ]
        exact RG.RunsIf.nil
      refine RG.wpL_pair (i := 7) (j := 11) (by kernel_rfl) (by rfl) (by rfl) (by rfl) (by rfl) (fun KX hK => ?_) (fun KX hK => ?_)
      · have HK := TW.hide hK
        clear hK
        go_simp
        refine (PK.out Yb (hB ▸ HTb.out.2.2.2)).mono ?_
        rintro e W1 ⟨rfl, hb1⟩
        have Hc : Hid (W1.heap[B]? = some (.cells (runC hs ms n la no) 43 (0, 0)) ∧ (∀ j, j < 11 → W1.rangeAt g1 (j * 16) (X (roundsL (beginL hs n la no) ms j))) ∧ g1 < W1.heap.size ∧ Below B w W1) := ⟨blk_keep HTb.out.1 hb1, fun j hj => range_below (HTb.out.2.1 j hj) HTb.out.2.2.1 hb1, Nat.lt_of_lt_of_le HTb.out.2.2.1 hb1.size, below_row HTb.out.2.2.2 hb1 (by have := blk_lt HTb.out.1; omega)⟩
        refine HK.out _ _ Hc.out (fun _ => trivial) ?_
        clear HK KX hb1
        try simp only [Act.put, List.setIfInBounds_toArray, List.set_cons_zero, List.set_cons_succ, List.getElem_toArray, List.getElem_cons_zero, List.getElem_cons_succ]
        refine RG.wpL_take (fuel := 3) (a' := ?Abp) [8, 9, 10] (by kernel_rfl) (by kernel_rfl) (fun _ _ _ _ _ h => h) Hc.out (fun _ => trivial) ?rbp ?_
        case rbp =>
          refine RG.RunsIf.weak (v := ?_) (by rfl) (by rfl) (fun Z hT => ?_) ?_
          rotate_left
          · go_simp
            rfl
          simp only [Act.put, List.setIfInBounds_toArray, List.set_cons_zero, List.set_cons_succ, List.getElem_toArray, List.getElem_cons_zero, List.getElem_cons_succ]
          refine RG.RunsIf.weak (v := ?_) (by rfl) (by rfl) (fun Z hT => ?_) ?_
          rotate_left
          · go_simp
            rfl
          simp only [Act.put, List.setIfInBounds_toArray, List.set_cons_zero, List.set_cons_succ, List.getElem_toArray, List.getElem_cons_zero, List.getElem_cons_succ]
          refine RG.RunsIf.weak (v := ?_) (by rfl) (by rfl) (fun Z hT => ?_) ?_
          rotate_left
          · go_simp
            rfl
          simp only [Act.put, List.setIfInBounds_toArray, List.set_cons_zero, List.set_cons_succ, List.getElem_toArray, List.getElem_cons_zero, List.getElem_cons_succ]
          exact RG.RunsIf.nil
        have hg0 : B < W1.heap.size := blk_lt Hc.out.1
        have hg00 : g1 < W1.heap.size := Hc.out.2.2.1
        have Ha : Hid ((W1.alloc (.cells #[.int .u32 0, .int .u32 0, .int .u32 0, .int .u32 0, .int .u32 0, .int .u32 0, .int .u32 0, .int .u32 0, .int .u32 0, .int .u32 0, .int .u32 0, .int .u32 0, .int .u32 0, .int .u32 0, .int .u32 0, .int .u32 0] 34)).heap[B]? = some (.cells (runC hs ms n la no) 43 (0, 0)) ∧ (∀ j, j < 11 → (W1.alloc (.cells #[.int .u32 0, .int .u32 0, .int .u32 0, .int .u32 0, .int .u32 0, .int .u32 0, .int .u32 0, .int .u32 0, .int .u32 0, .int .u32 0, .int .u32 0, .int .u32 0, .int .u32 0, .int .u32 0, .int .u32 0, .int .u32 0] 34)).rangeAt g1 (j * 16) (X (roundsL (beginL hs n la no) ms j))) ∧ g1 < (W1.alloc (.cells #[.int .u32 0, .int .u32 0, .int .u32 0, .int .u32 0, .int .u32 0, .int .u32 0, .int .u32 0, .int .u32 0, .int .u32 0, .int .u32 0, .int .u32 0, .int .u32 0, .int .u32 0, .int .u32 0, .int .u32 0, .int .u32 0] 34)).heap.size ∧ Below B w (W1.alloc (.cells #[.int .u32 0, .int .u32 0, .int .u32 0, .int .u32 0, .int .u32 0, .int .u32 0, .int .u32 0, .int .u32 0, .int .u32 0, .int .u32 0, .int .u32 0, .int .u32 0, .int .u32 0, .int .u32 0, .int .u32 0, .int .u32 0] 34))) := ⟨blk_alloc Hc.out.1, fun j hj => range_below (Hc.out.2.1 j hj) Hc.out.2.2.1 ((Below.refl _ _).alloc (Nat.le_refl _) _), by have := Hc.out.2.2.1; simp; omega, Hc.out.2.2.2.alloc (by have := Hc.out.2.2.2.size; omega) _⟩
        have Na := TW.hide (heap_new W1 (.cells #[.int .u32 0, .int .u32 0, .int .u32 0, .int .u32 0, .int .u32 0, .int .u32 0, .int .u32 0, .int .u32 0, .int .u32 0, .int .u32 0, .int .u32 0, .int .u32 0, .int .u32 0, .int .u32 0, .int .u32 0, .int .u32 0] 34))
        refine RG.wpL_step (i := 11) (by kernel_rfl) (by rfl) (by rfl) (fun KX hK => ?_)
        have HK := TW.hide hK
        clear hK
        go_simp
        refine HK.out _ _ Ha.out (fun _ => trivial) ?_
        clear HK KX Hc
        generalize W1.alloc (.cells #[.int .u32 0, .int .u32 0, .int .u32 0, .int .u32 0, .int .u32 0, .int .u32 0, .int .u32 0, .int .u32 0, .int .u32 0, .int .u32 0, .int .u32 0, .int .u32 0, .int .u32 0, .int .u32 0, .int .u32 0, .int .u32 0] 34) = X1 at *
        generalize W1.heap.size = g at *
        have hgl1 : g < X1.heap.size := blk_lt Na.out
        have T51 : Hid ((X1.setRow g (K .u32 us)).heap[B]? = some (.cells (runC hs ms n la no) 43 (0, 0)) ∧ (∀ j, j < 11 → (X1.setRow g (K .u32 us)).rangeAt g1 (j * 16) (X (roundsL (beginL hs n la no) ms j))) ∧ g1 < (X1.setRow g (K .u32 us)).heap.size ∧ Below B w (X1.setRow g (K .u32 us))) := ⟨by rw [setRow_other _ _ _ _ (by have := blk_lt Ha.out.1; omega)]; exact Ha.out.1, fun j hj => range_setRow (Ha.out.2.1 j hj) (by omega), by simp; exact Ha.out.2.2.1, below_setRow Ha.out.2.2.2 (by have := blk_lt Ha.out.1; omega)⟩
        have N51 := TW.hide (setRow_heap _ _ _ (K .u32 us) _ _ Na.out)
        refine RG.wpL_step (i := 12) (by kernel_rfl) (by rfl) (by rfl) (fun KX hK => ?_)
        have HK := TW.hide hK
        clear hK
        refine wp_store_row 34 _ _ (by rfl) g (K .u32 us) (by rfl) (by rfl) 34 _ Na.out IK.out OK.out (K_one _ _) ?_
        simp only [Act.put, List.setIfInBounds_toArray, List.set_cons_zero, List.set_cons_succ, List.getElem_toArray, List.getElem_cons_zero, List.getElem_cons_succ]
        refine HK.out _ _ T51.out (fun _ => trivial) ?_
        clear HK KX Ha Na
        generalize X1.setRow g (K .u32 us) = Z1 at *
        refine RG.wpL_step (i := 13) (by kernel_rfl) (by rfl) (by rfl) (fun KX hK => ?_)
        have HK := TW.hide hK
        clear hK
        go_simp
        refine HK.out _ _ T51.out (fun _ => trivial) ?_
        clear HK KX
        refine RG.wpL_done (by kernel_rfl) ?_ _
        refine NoPanic.normal ?_
        have HD : Hid ((Z1.heap[B]? = some (.cells (runC hs ms n la no) 43 (0, 0)) ∧ (∀ j, j < 11 → Z1.rangeAt g1 (j * 16) (X (roundsL (beginL hs n la no) ms j))) ∧ g1 < Z1.heap.size ∧ Below B w Z1) ∧ Z1.heap[g]? = some (.cells (K .u32 us) 34 (0, 0))) := ⟨T51.out, N51.out⟩
        clear T51 N51
        go_wp2
        refine wp_region_noPanic ?_
        refine RG.wp_region_L (fun Z => True) (fun Z => (Z.heap[B]? = some (.cells (runC hs ms n la no) 43 (0, 0)) ∧ (∀ j, j < 11 → Z.rangeAt g1 (j * 16) (X (roundsL (beginL hs n la no) ms j))) ∧ g1 < Z.heap.size ∧ Below B w Z) ∧ Z.heap[g]? = some (.cells (K .u32 us) 34 (0, 0))) [] (by kernel_rfl) ?_
        refine RG.wpL_any fun Y8 hY => ?_
        have H8 : Hid ((Y8.heap[B]? = some (.cells (runC hs ms n la no) 43 (0, 0)) ∧ (∀ j, j < 11 → Y8.rangeAt g1 (j * 16) (X (roundsL (beginL hs n la no) ms j))) ∧ g1 < Y8.heap.size ∧ Below B w Y8) ∧ Y8.heap[g]? = some (.cells (K .u32 us) 34 (0, 0))) := by rw [hY]; exact ⟨⟨HD.out.1.1, HD.out.1.2.1, HD.out.1.2.2.1, below_drewN HD.out.1.2.2.2 1⟩, HD.out.2⟩
        clear hY
        refine RG.wpL_take (fuel := 0) (a' := ?Asx) [0, 1, 2, 3, 4, 5, 6, 7, 8, 9, 10] (by kernel_rfl) (by kernel_rfl) (fun _ _ _ _ _ h => h) H8.out (fun _ => trivial) ?rsx ?_
        case rsx =>
          refine RG.RunsIf.weak (v := ?_) (by rfl) (by rfl) (fun Z hT => ?_) ?_
          rotate_left
          · go_simp
            rfl
          simp only [Act.put, List.setIfInBounds_toArray, List.set_cons_zero, List.set_cons_succ, List.getElem_toArray, List.getElem_cons_zero, List.getElem_cons_succ]
          refine RG.RunsIf.weak (v := ?_) (by rfl) (by rfl) (fun Z hT => ?_) ?_
          rotate_left
          · go_simp
            rfl
          simp only [Act.put, List.setIfInBounds_toArray, List.set_cons_zero, List.set_cons_succ, List.getElem_toArray, List.getElem_cons_zero, List.getElem_cons_succ]
          refine RG.RunsIf.weak (v := ?_) (by rfl) (by rfl) (fun Z hT => ?_) ?_
          rotate_left
          · go_simp
            rfl
          simp only [Act.put, List.setIfInBounds_toArray, List.set_cons_zero, List.set_cons_succ, List.getElem_toArray, List.getElem_cons_zero, List.getElem_cons_succ]
          refine RG.RunsIf.weak (by rfl) (by rfl) (fun Z hT => exec_load_row' 34 _ (by rfl) (g) (by rfl) 34 (K .u32 us) (0, 0) _ hT.2 Tryd.underlying34 rfl IK.out) ?_
          simp only [Act.put, List.setIfInBounds_toArray, List.set_cons_zero, List.set_cons_succ, List.getElem_toArray, List.getElem_cons_zero, List.getElem_cons_succ]
          refine RG.RunsIf.weak (v := ?_) (by rfl) (by rfl) (fun Z hT => ?_) ?_
          rotate_left
          · go_simp
            rfl
          simp only [Act.put, List.setIfInBounds_toArray, List.set_cons_zero, List.set_cons_succ, List.getElem_toArray, List.getElem_cons_zero, List.getElem_cons_succ]
          refine RG.RunsIf.weak (v := ?_) (by rfl) (by rfl) (fun Z hT => ?_) ?_
          rotate_left
          · go_simp
            rfl
          simp only [Act.put, List.setIfInBounds_toArray, List.set_cons_zero, List.set_cons_succ, List.getElem_toArray, List.getElem_cons_zero, List.getElem_cons_succ]
          refine RG.RunsIf.weak (v := (.int .i64 ((k + 1 : Nat) : Int))) (by rfl) (by rfl) (fun Z hT => ?_) ?_
          · rw [← k2]
            go_simp
          simp only [Act.put, List.setIfInBounds_toArray, List.set_cons_zero, List.set_cons_succ, List.getElem_toArray, List.getElem_cons_zero, List.getElem_cons_succ]
          refine RG.RunsIf.weak (v := .pointer (some ⟨g1, (k + 1) * 16, none⟩)) (by rfl) (by rfl) (fun Z hT => exec_indexAt 44 _ _ (by rfl) g1 11 cap1 ((k + 1)) 16 34 (by rfl) (by rfl) hlt12 Tryd.underlying44 sizeS) ?_
          simp only [Act.put, List.setIfInBounds_toArray, List.set_cons_zero, List.set_cons_succ, List.getElem_toArray, List.getElem_cons_zero, List.getElem_cons_succ]
          refine RG.RunsIf.weak (by rfl) (by rfl) (fun Z hT => exec_load_mid 34 _ (by rfl) (g1) ((k + 1) * 16) (by rfl) (X us) _ (HUS.out ▸ hT.1.2.1 (k + 1) hlt12) Tryd.underlying34 rfl IXK.out) ?_
          simp only [Act.put, List.setIfInBounds_toArray, List.set_cons_zero, List.set_cons_succ, List.getElem_toArray, List.getElem_cons_zero, List.getElem_cons_succ]
          refine RG.RunsIf.weak (v := ?_) (by rfl) (by rfl) (fun Z hT => ?_) ?_
          rotate_left
          · have q := QK.out Z
            go_simp
            rfl
          simp only [Act.put, List.setIfInBounds_toArray, List.set_cons_zero, List.set_cons_succ, List.getElem_toArray, List.getElem_cons_zero, List.getElem_cons_succ]
          refine RG.RunsIf.weak (v := ?_) (by rfl) (by rfl) (fun Z hT => ?_) ?_
          rotate_left
          · go_simp
            rfl
          simp only [Act.put, List.setIfInBounds_toArray, List.set_cons_zero, List.set_cons_succ, List.getElem_toArray, List.getElem_cons_zero, List.getElem_cons_succ]
          exact RG.RunsIf.nil
        refine RG.wpL_done (by kernel_rfl) ?_ _
        refine NoPanic.normal ?_
        go_wp2
        go_roundw
        case rel => exact ⟨k + 1, by omega, by go_num, H8.out.1⟩
        case measure => simp [intOf]; omega
      · have HK := TW.hide hK
        clear hK
        have hg0 : B < Yb.heap.size := blk_lt HTb.out.1
        have hg00 : g1 < Yb.heap.size := HTb.out.2.2.1
        have Ha : Hid ((Yb.alloc (.cells #[.int .u32 0, .int .u32 0, .int .u32 0, .int .u32 0, .int .u32 0, .int .u32 0, .int .u32 0, .int .u32 0, .int .u32 0, .int .u32 0, .int .u32 0, .int .u32 0, .int .u32 0, .int .u32 0, .int .u32 0, .int .u32 0] 34)).heap[B]? = some (.cells (runC hs ms n la no) 43 (0, 0)) ∧ (∀ j, j < 11 → (Yb.alloc (.cells #[.int .u32 0, .int .u32 0, .int .u32 0, .int .u32 0, .int .u32 0, .int .u32 0, .int .u32 0, .int .u32 0, .int .u32 0, .int .u32 0, .int .u32 0, .int .u32 0, .int .u32 0, .int .u32 0, .int .u32 0, .int .u32 0] 34)).rangeAt g1 (j * 16) (X (roundsL (beginL hs n la no) ms j))) ∧ g1 < (Yb.alloc (.cells #[.int .u32 0, .int .u32 0, .int .u32 0, .int .u32 0, .int .u32 0, .int .u32 0, .int .u32 0, .int .u32 0, .int .u32 0, .int .u32 0, .int .u32 0, .int .u32 0, .int .u32 0, .int .u32 0, .int .u32 0, .int .u32 0] 34)).heap.size ∧ Below B w (Yb.alloc (.cells #[.int .u32 0, .int .u32 0, .int .u32 0, .int .u32 0, .int .u32 0, .int .u32 0, .int .u32 0, .int .u32 0, .int .u32 0, .int .u32 0, .int .u32 0, .int .u32 0, .int .u32 0, .int .u32 0, .int .u32 0, .int .u32 0] 34))) := ⟨blk_alloc HTb.out.1, fun j hj => range_below (HTb.out.2.1 j hj) HTb.out.2.2.1 ((Below.refl _ _).alloc (Nat.le_refl _) _), by have := HTb.out.2.2.1; simp; omega, HTb.out.2.2.2.alloc (by have := HTb.out.2.2.2.size; omega) _⟩
        have Na := TW.hide (heap_new Yb (.cells #[.int .u32 0, .int .u32 0, .int .u32 0, .int .u32 0, .int .u32 0, .int .u32 0, .int .u32 0, .int .u32 0, .int .u32 0, .int .u32 0, .int .u32 0, .int .u32 0, .int .u32 0, .int .u32 0, .int .u32 0, .int .u32 0] 34))
        go_simp
        refine HK.out _ _ Ha.out (fun _ => trivial) ?_
        clear HK KX HTb
        generalize Yb.alloc (.cells #[.int .u32 0, .int .u32 0, .int .u32 0, .int .u32 0, .int .u32 0, .int .u32 0, .int .u32 0, .int .u32 0, .int .u32 0, .int .u32 0, .int .u32 0, .int .u32 0, .int .u32 0, .int .u32 0, .int .u32 0, .int .u32 0] 34) = X0 at *
        generalize Yb.heap.size = g at *
        try simp only [Act.put, List.setIfInBounds_toArray, List.set_cons_zero, List.set_cons_succ, List.getElem_toArray, List.getElem_cons_zero, List.getElem_cons_succ]
        refine RG.wpL_step (i := 7) (by kernel_rfl) (by rfl) (by rfl) (fun KX hK => ?_)
        have HK := TW.hide hK
        clear hK
        go_simp
        refine (PK.out X0 (hB ▸ Ha.out.2.2.2)).mono ?_
        rintro e X2 ⟨rfl, hb1⟩
        have Hc : Hid (X2.heap[B]? = some (.cells (runC hs ms n la no) 43 (0, 0)) ∧ (∀ j, j < 11 → X2.rangeAt g1 (j * 16) (X (roundsL (beginL hs n la no) ms j))) ∧ g1 < X2.heap.size ∧ Below B w X2) := ⟨blk_keep Ha.out.1 hb1, fun j hj => range_below (Ha.out.2.1 j hj) Ha.out.2.2.1 hb1, Nat.lt_of_lt_of_le Ha.out.2.2.1 hb1.size, below_row Ha.out.2.2.2 hb1 (by have := blk_lt Ha.out.1; omega)⟩
        have Nc := TW.hide (blk_keep Na.out hb1)
        refine HK.out _ _ Hc.out (fun _ => trivial) ?_
        clear HK KX hb1 Ha Na
        try simp only [Act.put, List.setIfInBounds_toArray, List.set_cons_zero, List.set_cons_succ, List.getElem_toArray, List.getElem_cons_zero, List.getElem_cons_succ]
        refine RG.wpL_take (fuel := 2) (a' := ?Abq) [8, 9, 10] (by kernel_rfl) (by kernel_rfl) (fun _ _ _ _ _ h => h) Hc.out (fun _ => trivial) ?rbq ?_
        case rbq =>
          refine RG.RunsIf.weak (v := ?_) (by rfl) (by rfl) (fun Z hT => ?_) ?_
          rotate_left
          · go_simp
            rfl
          simp only [Act.put, List.setIfInBounds_toArray, List.set_cons_zero, List.set_cons_succ, List.getElem_toArray, List.getElem_cons_zero, List.getElem_cons_succ]
          refine RG.RunsIf.weak (v := ?_) (by rfl) (by rfl) (fun Z hT => ?_) ?_
          rotate_left
          · go_simp
            rfl
          simp only [Act.put, List.setIfInBounds_toArray, List.set_cons_zero, List.set_cons_succ, List.getElem_toArray, List.getElem_cons_zero, List.getElem_cons_succ]
          refine RG.RunsIf.weak (v := ?_) (by rfl) (by rfl) (fun Z hT => ?_) ?_
          rotate_left
          · go_simp
            rfl
          simp only [Act.put, List.setIfInBounds_toArray, List.set_cons_zero, List.set_cons_succ, List.getElem_toArray, List.getElem_cons_zero, List.getElem_cons_succ]
          exact RG.RunsIf.nil
        have hgl2 : g < X2.heap.size := blk_lt Nc.out
        have T52 : Hid ((X2.setRow g (K .u32 us)).heap[B]? = some (.cells (runC hs ms n la no) 43 (0, 0)) ∧ (∀ j, j < 11 → (X2.setRow g (K .u32 us)).rangeAt g1 (j * 16) (X (roundsL (beginL hs n la no) ms j))) ∧ g1 < (X2.setRow g (K .u32 us)).heap.size ∧ Below B w (X2.setRow g (K .u32 us))) := ⟨by rw [setRow_other _ _ _ _ (by have := blk_lt Hc.out.1; omega)]; exact Hc.out.1, fun j hj => range_setRow (Hc.out.2.1 j hj) (by omega), by simp; exact Hc.out.2.2.1, below_setRow Hc.out.2.2.2 (by have := blk_lt Hc.out.1; omega)⟩
        have N52 := TW.hide (setRow_heap _ _ _ (K .u32 us) _ _ Nc.out)
        refine RG.wpL_step (i := 12) (by kernel_rfl) (by rfl) (by rfl) (fun KX hK => ?_)
        have HK := TW.hide hK
        clear hK
        refine wp_store_row 34 _ _ (by rfl) g (K .u32 us) (by rfl) (by rfl) 34 _ Nc.out IK.out OK.out (K_one _ _) ?_
        simp only [Act.put, List.setIfInBounds_toArray, List.set_cons_zero, List.set_cons_succ, List.getElem_toArray, List.getElem_cons_zero, List.getElem_cons_succ]
        refine HK.out _ _ T52.out (fun _ => trivial) ?_
        clear HK KX Hc Nc
        generalize X2.setRow g (K .u32 us) = Z2 at *
        refine RG.wpL_step (i := 13) (by kernel_rfl) (by rfl) (by rfl) (fun KX hK => ?_)
        have HK := TW.hide hK
        clear hK
        go_simp
        refine HK.out _ _ T52.out (fun _ => trivial) ?_
        clear HK KX
        refine RG.wpL_done (by kernel_rfl) ?_ _
        refine NoPanic.normal ?_
        have HD : Hid ((Z2.heap[B]? = some (.cells (runC hs ms n la no) 43 (0, 0)) ∧ (∀ j, j < 11 → Z2.rangeAt g1 (j * 16) (X (roundsL (beginL hs n la no) ms j))) ∧ g1 < Z2.heap.size ∧ Below B w Z2) ∧ Z2.heap[g]? = some (.cells (K .u32 us) 34 (0, 0))) := ⟨T52.out, N52.out⟩
        clear T52 N52
        go_wp2
        refine wp_region_noPanic ?_
        refine RG.wp_region_L (fun Z => True) (fun Z => (Z.heap[B]? = some (.cells (runC hs ms n la no) 43 (0, 0)) ∧ (∀ j, j < 11 → Z.rangeAt g1 (j * 16) (X (roundsL (beginL hs n la no) ms j))) ∧ g1 < Z.heap.size ∧ Below B w Z) ∧ Z.heap[g]? = some (.cells (K .u32 us) 34 (0, 0))) [] (by kernel_rfl) ?_
        refine RG.wpL_any fun Y8 hY => ?_
        have H8 : Hid ((Y8.heap[B]? = some (.cells (runC hs ms n la no) 43 (0, 0)) ∧ (∀ j, j < 11 → Y8.rangeAt g1 (j * 16) (X (roundsL (beginL hs n la no) ms j))) ∧ g1 < Y8.heap.size ∧ Below B w Y8) ∧ Y8.heap[g]? = some (.cells (K .u32 us) 34 (0, 0))) := by rw [hY]; exact ⟨⟨HD.out.1.1, HD.out.1.2.1, HD.out.1.2.2.1, below_drewN HD.out.1.2.2.2 1⟩, HD.out.2⟩
        clear hY
        refine RG.wpL_take (fuel := 0) (a' := ?Asy) [0, 1, 2, 3, 4, 5, 6, 7, 8, 9, 10] (by kernel_rfl) (by kernel_rfl) (fun _ _ _ _ _ h => h) H8.out (fun _ => trivial) ?rsy ?_
        case rsy =>
          refine RG.RunsIf.weak (v := ?_) (by rfl) (by rfl) (fun Z hT => ?_) ?_
          rotate_left
          · go_simp
            rfl
          simp only [Act.put, List.setIfInBounds_toArray, List.set_cons_zero, List.set_cons_succ, List.getElem_toArray, List.getElem_cons_zero, List.getElem_cons_succ]
          refine RG.RunsIf.weak (v := ?_) (by rfl) (by rfl) (fun Z hT => ?_) ?_
          rotate_left
          · go_simp
            rfl
          simp only [Act.put, List.setIfInBounds_toArray, List.set_cons_zero, List.set_cons_succ, List.getElem_toArray, List.getElem_cons_zero, List.getElem_cons_succ]
          refine RG.RunsIf.weak (v := ?_) (by rfl) (by rfl) (fun Z hT => ?_) ?_
          rotate_left
          · go_simp
            rfl
          simp only [Act.put, List.setIfInBounds_toArray, List.set_cons_zero, List.set_cons_succ, List.getElem_toArray, List.getElem_cons_zero, List.getElem_cons_succ]
          refine RG.RunsIf.weak (by rfl) (by rfl) (fun Z hT => exec_load_row' 34 _ (by rfl) (g) (by rfl) 34 (K .u32 us) (0, 0) _ hT.2 Tryd.underlying34 rfl IK.out) ?_
          simp only [Act.put, List.setIfInBounds_toArray, List.set_cons_zero, List.set_cons_succ, List.getElem_toArray, List.getElem_cons_zero, List.getElem_cons_succ]
          refine RG.RunsIf.weak (v := ?_) (by rfl) (by rfl) (fun Z hT => ?_) ?_
          rotate_left
          · go_simp
            rfl
          simp only [Act.put, List.setIfInBounds_toArray, List.set_cons_zero, List.set_cons_succ, List.getElem_toArray, List.getElem_cons_zero, List.getElem_cons_succ]
          refine RG.RunsIf.weak (v := ?_) (by rfl) (by rfl) (fun Z hT => ?_) ?_
          rotate_left
          · go_simp
            rfl
          simp only [Act.put, List.setIfInBounds_toArray, List.set_cons_zero, List.set_cons_succ, List.getElem_toArray, List.getElem_cons_zero, List.getElem_cons_succ]
          refine RG.RunsIf.weak (v := (.int .i64 ((k + 1 : Nat) : Int))) (by rfl) (by rfl) (fun Z hT => ?_) ?_
          · rw [← k2]
            go_simp
          simp only [Act.put, List.setIfInBounds_toArray, List.set_cons_zero, List.set_cons_succ, List.getElem_toArray, List.getElem_cons_zero, List.getElem_cons_succ]
          refine RG.RunsIf.weak (v := .pointer (some ⟨g1, (k + 1) * 16, none⟩)) (by rfl) (by rfl) (fun Z hT => exec_indexAt 44 _ _ (by rfl) g1 11 cap1 ((k + 1)) 16 34 (by rfl) (by rfl) hlt12 Tryd.underlying44 sizeS) ?_
          simp only [Act.put, List.setIfInBounds_toArray, List.set_cons_zero, List.set_cons_succ, List.getElem_toArray, List.getElem_cons_zero, List.getElem_cons_succ]
          refine RG.RunsIf.weak (by rfl) (by rfl) (fun Z hT => exec_load_mid 34 _ (by rfl) (g1) ((k + 1) * 16) (by rfl) (X us) _ (HUS.out ▸ hT.1.2.1 (k + 1) hlt12) Tryd.underlying34 rfl IXK.out) ?_
          simp only [Act.put, List.setIfInBounds_toArray, List.set_cons_zero, List.set_cons_succ, List.getElem_toArray, List.getElem_cons_zero, List.getElem_cons_succ]
          refine RG.RunsIf.weak (v := ?_) (by rfl) (by rfl) (fun Z hT => ?_) ?_
          rotate_left
          · have q := QK.out Z
            go_simp
            rfl
          simp only [Act.put, List.setIfInBounds_toArray, List.set_cons_zero, List.set_cons_succ, List.getElem_toArray, List.getElem_cons_zero, List.getElem_cons_succ]
          refine RG.RunsIf.weak (v := ?_) (by rfl) (by rfl) (fun Z hT => ?_) ?_
          rotate_left
          · go_simp
            rfl
          simp only [Act.put, List.setIfInBounds_toArray, List.set_cons_zero, List.set_cons_succ, List.getElem_toArray, List.getElem_cons_zero, List.getElem_cons_succ]
          exact RG.RunsIf.nil
        refine RG.wpL_done (by kernel_rfl) ?_ _
        refine NoPanic.normal ?_
        go_wp2
        go_roundw
        case rel => exact ⟨k + 1, by omega, by go_num, H8.out.1⟩
        case measure => simp [intOf]; omega
    · obtain rfl : k = 10 := by omega
      have HA := TW.hide a1
      clear a1
      go_wp2
      refine HA.out _ _ ?_
      clear HA
      refine wp_seq ?_
      refine wp_region_noPanic ?_
      refine RG.wp_region_L (fun Z => True) (fun Z => Z.heap[B]? = some (.cells (runC hs ms n la no) 43 (0, 0)) ∧ (∀ j, j < 11 → Z.rangeAt g1 (j * 16) (X (roundsL (beginL hs n la no) ms j))) ∧ g1 < Z.heap.size ∧ Below B w Z) [] (by kernel_rfl) ?_
      refine RG.wpL_any fun Yc hY => ?_
      have HTc : Hid (Yc.heap[B]? = some (.cells (runC hs ms n la no) 43 (0, 0)) ∧ (∀ j, j < 11 → Yc.rangeAt g1 (j * 16) (X (roundsL (beginL hs n la no) ms j))) ∧ g1 < Yc.heap.size ∧ Below B w Yc) := by rw [hY]; exact ⟨HT.out.1, HT.out.2.1, HT.out.2.2.1, below_drewN HT.out.2.2.2 1⟩
      clear hY
      refine RG.wpL_take (fuel := 13) (a' := ?Ac) [0, 1, 2, 3, 4] (by kernel_rfl) (by kernel_rfl) (fun _ _ _ _ _ h => h) HTc.out (fun _ => trivial) ?rc ?_
      case rc =>
        refine RG.RunsIf.weak (v := ?_) (by rfl) (by rfl) (fun Z hT => ?_) ?_
        rotate_left
        · go_simp
          rfl
        simp only [Act.put, List.setIfInBounds_toArray, List.set_cons_zero, List.set_cons_succ, List.getElem_toArray, List.getElem_cons_zero, List.getElem_cons_succ]
        refine RG.RunsIf.weak (v := .pointer (some ⟨g1, 10 * 16, none⟩)) (by rfl) (by rfl) (fun Z hT => exec_indexAt 44 _ _ (by rfl) g1 11 cap1 (10) 16 34 (by rfl) (by rfl) (by decide) Tryd.underlying44 sizeS) ?_
        simp only [Act.put, List.setIfInBounds_toArray, List.set_cons_zero, List.set_cons_succ, List.getElem_toArray, List.getElem_cons_zero, List.getElem_cons_succ]
        refine RG.RunsIf.weak (by rfl) (by rfl) (fun Z hT => exec_load_mid 34 _ (by rfl) (g1) (10 * 16) (by rfl) (X (roundsL (beginL hs n la no) ms (10))) _ (hT.2.1 (10) (by decide)) Tryd.underlying34 rfl (IXA.out (10))) ?_
        simp only [Act.put, List.setIfInBounds_toArray, List.set_cons_zero, List.set_cons_succ, List.getElem_toArray, List.getElem_cons_zero, List.getElem_cons_succ]
        refine RG.RunsIf.weak (v := ?_) (by rfl) (by rfl) (fun Z hT => ?_) ?_
        rotate_left
        · go_simp
          rfl
        simp only [Act.put, List.setIfInBounds_toArray, List.set_cons_zero, List.set_cons_succ, List.getElem_toArray, List.getElem_cons_zero, List.getElem_cons_succ]
        refine RG.RunsIf.weak (by rfl) (by rfl) (fun Z hT => exec_load_mid 34 _ (by rfl) (B) 8 (by rfl) (ms.map (Value.int .u32)) _ (HSC.out Z B hT.1).2.1 Tryd.underlying34 rfl I16.out) ?_
        simp only [Act.put, List.setIfInBounds_toArray, List.set_cons_zero, List.set_cons_succ, List.getElem_toArray, List.getElem_cons_zero, List.getElem_cons_succ]
        exact RG.RunsIf.nil
      refine RG.wpL_pair (i := 5) (j := 12) (by kernel_rfl) (by rfl) (by rfl) (by rfl) (by rfl) (fun KX hK => ?_) (fun KX hK => ?_)
      · have HK := TW.hide hK
        clear hK
        go_simp
        refine (P3.out Yc (hB ▸ HTc.out.2.2.2)).mono ?_
        rintro e W1 ⟨rfl, hb1⟩
        have Hc : Hid (W1.heap[B]? = some (.cells (runC hs ms n la no) 43 (0, 0)) ∧ (∀ j, j < 11 → W1.rangeAt g1 (j * 16) (X (roundsL (beginL hs n la no) ms j))) ∧ g1 < W1.heap.size ∧ Below B w W1) := ⟨blk_keep HTc.out.1 hb1, fun j hj => range_below (HTc.out.2.1 j hj) HTc.out.2.2.1 hb1, Nat.lt_of_lt_of_le HTc.out.2.2.1 hb1.size, below_row HTc.out.2.2.2 hb1 (by have := blk_lt HTc.out.1; omega)⟩
        refine HK.out _ _ Hc.out (fun _ => trivial) ?_
        clear HK KX hb1
        try simp only [Act.put, List.setIfInBounds_toArray, List.set_cons_zero, List.set_cons_succ, List.getElem_toArray, List.getElem_cons_zero, List.getElem_cons_succ]
        refine RG.wpL_take (fuel := 6) (a' := ?Acp) [6, 7, 8, 9, 10, 11] (by kernel_rfl) (by kernel_rfl) (fun _ _ _ _ _ h => h) Hc.out (fun _ => trivial) ?rcp ?_
        case rcp =>
          refine RG.RunsIf.weak (v := ?_) (by rfl) (by rfl) (fun Z hT => ?_) ?_
          rotate_left
          · go_simp
            rfl
          simp only [Act.put, List.setIfInBounds_toArray, List.set_cons_zero, List.set_cons_succ, List.getElem_toArray, List.getElem_cons_zero, List.getElem_cons_succ]
          refine RG.RunsIf.weak (v := ?_) (by rfl) (by rfl) (fun Z hT => ?_) ?_
          rotate_left
          · go_simp
            rfl
          simp only [Act.put, List.setIfInBounds_toArray, List.set_cons_zero, List.set_cons_succ, List.getElem_toArray, List.getElem_cons_zero, List.getElem_cons_succ]
          refine RG.RunsIf.weak (v := ?_) (by rfl) (by rfl) (fun Z hT => ?_) ?_
          rotate_left
          · go_simp
            rfl
          simp only [Act.put, List.setIfInBounds_toArray, List.set_cons_zero, List.set_cons_succ, List.getElem_toArray, List.getElem_cons_zero, List.getElem_cons_succ]
          refine RG.RunsIf.weak (v := ?_) (by rfl) (by rfl) (fun Z hT => ?_) ?_
          rotate_left
          · go_simp
            rfl
          simp only [Act.put, List.setIfInBounds_toArray, List.set_cons_zero, List.set_cons_succ, List.getElem_toArray, List.getElem_cons_zero, List.getElem_cons_succ]
          refine RG.RunsIf.weak (v := ?_) (by rfl) (by rfl) (fun Z hT => ?_) ?_
          rotate_left
          · go_simp
            rfl
          simp only [Act.put, List.setIfInBounds_toArray, List.set_cons_zero, List.set_cons_succ, List.getElem_toArray, List.getElem_cons_zero, List.getElem_cons_succ]
          refine RG.RunsIf.weak (v := ?_) (by rfl) (by rfl) (fun Z hT => ?_) ?_
          rotate_left
          · go_simp
            rfl
          simp only [Act.put, List.setIfInBounds_toArray, List.set_cons_zero, List.set_cons_succ, List.getElem_toArray, List.getElem_cons_zero, List.getElem_cons_succ]
          exact RG.RunsIf.nil
        have hg0 : B < W1.heap.size := blk_lt Hc.out.1
        have hg00 : g1 < W1.heap.size := Hc.out.2.2.1
        have Ha : Hid ((W1.alloc (.cells #[.int .u32 0, .int .u32 0, .int .u32 0, .int .u32 0, .int .u32 0, .int .u32 0, .int .u32 0, .int .u32 0] 23)).heap[B]? = some (.cells (runC hs ms n la no) 43 (0, 0)) ∧ (∀ j, j < 11 → (W1.alloc (.cells #[.int .u32 0, .int .u32 0, .int .u32 0, .int .u32 0, .int .u32 0, .int .u32 0, .int .u32 0, .int .u32 0] 23)).rangeAt g1 (j * 16) (X (roundsL (beginL hs n la no) ms j))) ∧ g1 < (W1.alloc (.cells #[.int .u32 0, .int .u32 0, .int .u32 0, .int .u32 0, .int .u32 0, .int .u32 0, .int .u32 0, .int .u32 0] 23)).heap.size ∧ Below B w (W1.alloc (.cells #[.int .u32 0, .int .u32 0, .int .u32 0, .int .u32 0, .int .u32 0, .int .u32 0, .int .u32 0, .int .u32 0] 23))) := ⟨blk_alloc Hc.out.1, fun j hj => range_below (Hc.out.2.1 j hj) Hc.out.2.2.1 ((Below.refl _ _).alloc (Nat.le_refl _) _), by have := Hc.out.2.2.1; simp; omega, Hc.out.2.2.2.alloc (by have := Hc.out.2.2.2.size; omega) _⟩
        have Na := TW.hide (heap_new W1 (.cells #[.int .u32 0, .int .u32 0, .int .u32 0, .int .u32 0, .int .u32 0, .int .u32 0, .int .u32 0, .int .u32 0] 23))
        refine RG.wpL_step (i := 12) (by kernel_rfl) (by rfl) (by rfl) (fun KX hK => ?_)
        have HK := TW.hide hK
        clear hK
        go_simp
        refine HK.out _ _ Ha.out (fun _ => trivial) ?_
        clear HK KX Hc
        generalize W1.alloc (.cells #[.int .u32 0, .int .u32 0, .int .u32 0, .int .u32 0, .int .u32 0, .int .u32 0, .int .u32 0, .int .u32 0] 23) = X1 at *
        generalize W1.heap.size = g at *
        have hgl1 : g < X1.heap.size := blk_lt Na.out
        have T51 : Hid ((X1.setRow g (K .u32 hs)).heap[B]? = some (.cells (runC hs ms n la no) 43 (0, 0)) ∧ (∀ j, j < 11 → (X1.setRow g (K .u32 hs)).rangeAt g1 (j * 16) (X (roundsL (beginL hs n la no) ms j))) ∧ g1 < (X1.setRow g (K .u32 hs)).heap.size ∧ Below B w (X1.setRow g (K .u32 hs))) := ⟨by rw [setRow_other _ _ _ _ (by have := blk_lt Ha.out.1; omega)]; exact Ha.out.1, fun j hj => range_setRow (Ha.out.2.1 j hj) (by omega), by simp; exact Ha.out.2.2.1, below_setRow Ha.out.2.2.2 (by have := blk_lt Ha.out.1; omega)⟩
        have N51 := TW.hide (setRow_heap _ _ _ (K .u32 hs) _ _ Na.out)
        refine RG.wpL_step (i := 13) (by kernel_rfl) (by rfl) (by rfl) (fun KX hK => ?_)
        have HK := TW.hide hK
        clear hK
        refine wp_store_row 23 _ _ (by rfl) g (K .u32 hs) (by rfl) (by rfl) 23 _ Na.out K8.out O8.out (K_one _ _) ?_
        simp only [Act.put, List.setIfInBounds_toArray, List.set_cons_zero, List.set_cons_succ, List.getElem_toArray, List.getElem_cons_zero, List.getElem_cons_succ]
        refine HK.out _ _ T51.out (fun _ => trivial) ?_
        clear HK KX Ha Na
        generalize X1.setRow g (K .u32 hs) = Z1 at *
        refine RG.wpL_step (i := 14) (by kernel_rfl) (by rfl) (by rfl) (fun KX hK => ?_)
        have HK := TW.hide hK
        clear hK
        go_simp
        refine HK.out _ _ T51.out (fun _ => trivial) ?_
        clear HK KX
        refine RG.wpL_step (i := 15) (by kernel_rfl) (by rfl) (by rfl) (fun KX hK => ?_)
        have HK := TW.hide hK
        clear hK
        go_simp
        refine HK.out _ _ T51.out (fun _ => trivial) ?_
        clear HK KX
        refine RG.wpL_step (i := 16) (by kernel_rfl) (by rfl) (by rfl) (fun KX hK => ?_)
        have HK := TW.hide hK
        clear hK
        go_simp
        refine HK.out _ _ T51.out (fun _ => trivial) ?_
        clear HK KX
        refine RG.wpL_step (i := 17) (by kernel_rfl) (by rfl) (by rfl) (fun KX hK => ?_)
        have HK := TW.hide hK
        clear hK
        go_simp
        refine HK.out _ _ T51.out (fun _ => trivial) ?_
        clear HK KX
        refine RG.wpL_done (by kernel_rfl) ?_ _
        refine NoPanic.normal ?_
        have HD : Hid ((Z1.heap[B]? = some (.cells (runC hs ms n la no) 43 (0, 0)) ∧ (∀ j, j < 11 → Z1.rangeAt g1 (j * 16) (X (roundsL (beginL hs n la no) ms j))) ∧ g1 < Z1.heap.size ∧ Below B w Z1) ∧ Z1.heap[g]? = some (.cells (K .u32 hs) 23 (0, 0))) := ⟨T51.out, N51.out⟩
        clear T51 N51
        refine wp_seq_k fun KK hK => ?_
        have HK0 := TW.hide hK
        clear hK
        refine wp_seq ?_
        refine wp_region_noPanic ?_
        refine RG.wp_region_L (fun Z => True) (fun Z => (Z.heap[B]? = some (.cells (runC hs ms n la no) 43 (0, 0)) ∧ (∀ j, j < 11 → Z.rangeAt g1 (j * 16) (X (roundsL (beginL hs n la no) ms j))) ∧ g1 < Z.heap.size ∧ Below B w Z) ∧ Z.heap[g]? = some (.cells (K .u32 hs) 23 (0, 0))) [] (by kernel_rfl) ?_
        refine RG.wpL_any fun Y8 hY => ?_
        have H8 : Hid ((Y8.heap[B]? = some (.cells (runC hs ms n la no) 43 (0, 0)) ∧ (∀ j, j < 11 → Y8.rangeAt g1 (j * 16) (X (roundsL (beginL hs n la no) ms j))) ∧ g1 < Y8.heap.size ∧ Below B w Y8) ∧ Y8.heap[g]? = some (.cells (K .u32 hs) 23 (0, 0))) := by rw [hY]; exact ⟨⟨HD.out.1.1, HD.out.1.2.1, HD.out.1.2.2.1, below_drewN HD.out.1.2.2.2 1⟩, HD.out.2⟩
        clear hY
        refine RG.wpL_take (fuel := 3) (a' := ?Atx) [0, 1, 2, 3, 4, 5, 6, 7, 8, 9, 10, 11, 12, 13, 14, 15, 16, 17, 18, 19, 20, 21, 22, 23, 24, 25, 26, 27, 28, 29, 30, 31, 32, 33, 34, 35, 36, 37] (by kernel_rfl) (by kernel_rfl) (fun _ _ _ _ _ h => h) H8.out (fun _ => trivial) ?rtx ?_
        case rtx =>
          refine RG.RunsIf.weak (v := ?_) (by rfl) (by rfl) (fun Z hT => ?_) ?_
          rotate_left
          · go_simp
            rfl
          simp only [Act.put, List.setIfInBounds_toArray, List.set_cons_zero, List.set_cons_succ, List.getElem_toArray, List.getElem_cons_zero, List.getElem_cons_succ]
          refine RG.RunsIf.weak (v := ?_) (by rfl) (by rfl) (fun Z hT => ?_) ?_
          rotate_left
          · go_simp
            rfl
          simp only [Act.put, List.setIfInBounds_toArray, List.set_cons_zero, List.set_cons_succ, List.getElem_toArray, List.getElem_cons_zero, List.getElem_cons_succ]
          refine RG.RunsIf.weak (v := ?_) (by rfl) (by rfl) (fun Z hT => ?_) ?_
          rotate_left
          · go_simp
            rfl
          simp only [Act.put, List.setIfInBounds_toArray, List.set_cons_zero, List.set_cons_succ, List.getElem_toArray, List.getElem_cons_zero, List.getElem_cons_succ]
          refine RG.RunsIf.weak (by rfl) (by rfl) (fun Z hT => exec_load_row' 23 _ (by rfl) (g) (by rfl) 23 (K .u32 hs) (0, 0) _ hT.2 Tryd.underlying23 rfl K8.out) ?_
          simp only [Act.put, List.setIfInBounds_toArray, List.set_cons_zero, List.set_cons_succ, List.getElem_toArray, List.getElem_cons_zero, List.getElem_cons_succ]
          refine RG.RunsIf.weak (v := ?_) (by rfl) (by rfl) (fun Z hT => ?_) ?_
          rotate_left
          · go_simp
            rfl
          simp only [Act.put, List.setIfInBounds_toArray, List.set_cons_zero, List.set_cons_succ, List.getElem_toArray, List.getElem_cons_zero, List.getElem_cons_succ]
          refine RG.RunsIf.weak (by rfl) (by rfl) (fun Z hT => exec_load_mid 23 _ (by rfl) (B) 0 (by rfl) (hs.map (Value.int .u32)) _ (HSC.out Z B hT.1.1).1 Tryd.underlying23 rfl I8.out) ?_
          simp only [Act.put, List.setIfInBounds_toArray, List.set_cons_zero, List.set_cons_succ, List.getElem_toArray, List.getElem_cons_zero, List.getElem_cons_succ]
          refine RG.RunsIf.weak (v := ?_) (by rfl) (by rfl) (fun Z hT => ?_) ?_
          rotate_left
          · have q := Q2.out Z
            go_simp
            rfl
          simp only [Act.put, List.setIfInBounds_toArray, List.set_cons_zero, List.set_cons_succ, List.getElem_toArray, List.getElem_cons_zero, List.getElem_cons_succ]
          refine RG.RunsIf.weak (v := ?_) (by rfl) (by rfl) (fun Z hT => ?_) ?_
          rotate_left
          · go_simp
            rfl
          simp only [Act.put, List.setIfInBounds_toArray, List.set_cons_zero, List.set_cons_succ, List.getElem_toArray, List.getElem_cons_zero, List.getElem_cons_succ]
          refine RG.RunsIf.weak (v := ?_) (by rfl) (by rfl) (fun Z hT => ?_) ?_
          rotate_left
          · go_simp
            rfl
          simp only [Act.put, List.setIfInBounds_toArray, List.set_cons_zero, List.set_cons_succ, List.getElem_toArray, List.getElem_cons_zero, List.getElem_cons_succ]
          refine RG.RunsIf.weak (v := ?_) (by rfl) (by rfl) (fun Z hT => ?_) ?_
          rotate_left
          · go_simp
            rfl
          simp only [Act.put, List.setIfInBounds_toArray, List.set_cons_zero, List.set_cons_succ, List.getElem_toArray, List.getElem_cons_zero, List.getElem_cons_succ]
          refine RG.RunsIf.weak (v := ?_) (by rfl) (by rfl) (fun Z hT => ?_) ?_
          rotate_left
          · obtain ⟨_, _, c0, c1, c2⟩ := HSC.out Z B hT.1.1
            go_simp
            rfl
          simp only [Act.put, List.setIfInBounds_toArray, List.set_cons_zero, List.set_cons_succ, List.getElem_toArray, List.getElem_cons_zero, List.getElem_cons_succ]
          refine RG.RunsIf.weak (v := ?_) (by rfl) (by rfl) (fun Z hT => ?_) ?_
          rotate_left
          · obtain ⟨_, _, c0, c1, c2⟩ := HSC.out Z B hT.1.1
            go_simp
            rfl
          simp only [Act.put, List.setIfInBounds_toArray, List.set_cons_zero, List.set_cons_succ, List.getElem_toArray, List.getElem_cons_zero, List.getElem_cons_succ]
          refine RG.RunsIf.weak (v := (.bool false)) (by rfl) (by rfl) (fun Z hT => ?_) ?_
          · go_simp
          simp only [Act.put, List.setIfInBounds_toArray, List.set_cons_zero, List.set_cons_succ, List.getElem_toArray, List.getElem_cons_zero, List.getElem_cons_succ]
          refine RG.RunsIf.weak (v := ?_) (by rfl) (by rfl) (fun Z hT => ?_) ?_
          rotate_left
          · go_simp
            rfl
          simp only [Act.put, List.setIfInBounds_toArray, List.set_cons_zero, List.set_cons_succ, List.getElem_toArray, List.getElem_cons_zero, List.getElem_cons_succ]
          refine RG.RunsIf.weak (v := ?_) (by rfl) (by rfl) (fun Z hT => ?_) ?_
          rotate_left
          · go_simp
            rfl
          simp only [Act.put, List.setIfInBounds_toArray, List.set_cons_zero, List.set_cons_succ, List.getElem_toArray, List.getElem_cons_zero, List.getElem_cons_succ]
          refine RG.RunsIf.weak (v := ?_) (by rfl) (by rfl) (fun Z hT => ?_) ?_
          rotate_left
          · go_simp
            rfl
          simp only [Act.put, List.setIfInBounds_toArray, List.set_cons_zero, List.set_cons_succ, List.getElem_toArray, List.getElem_cons_zero, List.getElem_cons_succ]
          refine RG.RunsIf.weak (v := ?_) (by rfl) (by rfl) (fun Z hT => ?_) ?_
          rotate_left
          · obtain ⟨_, _, c0, c1, c2⟩ := HSC.out Z B hT.1.1
            go_simp
            rfl
          simp only [Act.put, List.setIfInBounds_toArray, List.set_cons_zero, List.set_cons_succ, List.getElem_toArray, List.getElem_cons_zero, List.getElem_cons_succ]
          refine RG.RunsIf.weak (v := ?_) (by rfl) (by rfl) (fun Z hT => ?_) ?_
          rotate_left
          · obtain ⟨_, _, c0, c1, c2⟩ := HSC.out Z B hT.1.1
            go_simp
            rfl
          simp only [Act.put, List.setIfInBounds_toArray, List.set_cons_zero, List.set_cons_succ, List.getElem_toArray, List.getElem_cons_zero, List.getElem_cons_succ]
          refine RG.RunsIf.weak (v := (.bool false)) (by rfl) (by rfl) (fun Z hT => ?_) ?_
          · go_simp
          simp only [Act.put, List.setIfInBounds_toArray, List.set_cons_zero, List.set_cons_succ, List.getElem_toArray, List.getElem_cons_zero, List.getElem_cons_succ]
          refine RG.RunsIf.weak (v := ?_) (by rfl) (by rfl) (fun Z hT => ?_) ?_
          rotate_left
          · go_simp
            rfl
          simp only [Act.put, List.setIfInBounds_toArray, List.set_cons_zero, List.set_cons_succ, List.getElem_toArray, List.getElem_cons_zero, List.getElem_cons_succ]
          refine RG.RunsIf.weak (v := ?_) (by rfl) (by rfl) (fun Z hT => ?_) ?_
          rotate_left
          · go_simp
            rfl
          simp only [Act.put, List.setIfInBounds_toArray, List.set_cons_zero, List.set_cons_succ, List.getElem_toArray, List.getElem_cons_zero, List.getElem_cons_succ]
          refine RG.RunsIf.weak (v := ?_) (by rfl) (by rfl) (fun Z hT => ?_) ?_
          rotate_left
          · go_simp
            rfl
          simp only [Act.put, List.setIfInBounds_toArray, List.set_cons_zero, List.set_cons_succ, List.getElem_toArray, List.getElem_cons_zero, List.getElem_cons_succ]
          refine RG.RunsIf.weak (v := ?_) (by rfl) (by rfl) (fun Z hT => ?_) ?_
          rotate_left
          · obtain ⟨_, _, c0, c1, c2⟩ := HSC.out Z B hT.1.1
            go_simp
            rfl
          simp only [Act.put, List.setIfInBounds_toArray, List.set_cons_zero, List.set_cons_succ, List.getElem_toArray, List.getElem_cons_zero, List.getElem_cons_succ]
          refine RG.RunsIf.weak (v := ?_) (by rfl) (by rfl) (fun Z hT => ?_) ?_
          rotate_left
          · obtain ⟨_, _, c0, c1, c2⟩ := HSC.out Z B hT.1.1
            go_simp
            rfl
          simp only [Act.put, List.setIfInBounds_toArray, List.set_cons_zero, List.set_cons_succ, List.getElem_toArray, List.getElem_cons_zero, List.getElem_cons_succ]
          refine RG.RunsIf.weak (v := (.bool false)) (by rfl) (by rfl) (fun Z hT => ?_) ?_
          · go_simp
          simp only [Act.put, List.setIfInBounds_toArray, List.set_cons_zero, List.set_cons_succ, List.getElem_toArray, List.getElem_cons_zero, List.getElem_cons_succ]
          refine RG.RunsIf.weak (v := ?_) (by rfl) (by rfl) (fun Z hT => ?_) ?_
          rotate_left
          · go_simp
            rfl
          simp only [Act.put, List.setIfInBounds_toArray, List.set_cons_zero, List.set_cons_succ, List.getElem_toArray, List.getElem_cons_zero, List.getElem_cons_succ]
          refine RG.RunsIf.weak (v := ?_) (by rfl) (by rfl) (fun Z hT => ?_) ?_
          rotate_left
          · go_simp
            rfl
          simp only [Act.put, List.setIfInBounds_toArray, List.set_cons_zero, List.set_cons_succ, List.getElem_toArray, List.getElem_cons_zero, List.getElem_cons_succ]
          refine RG.RunsIf.weak (v := ?_) (by rfl) (by rfl) (fun Z hT => ?_) ?_
          rotate_left
          · go_simp
            rfl
          simp only [Act.put, List.setIfInBounds_toArray, List.set_cons_zero, List.set_cons_succ, List.getElem_toArray, List.getElem_cons_zero, List.getElem_cons_succ]
          refine RG.RunsIf.weak (v := .pointer (some ⟨g1, 0 * 16, none⟩)) (by rfl) (by rfl) (fun Z hT => exec_indexAt 44 _ _ (by rfl) g1 11 cap1 (0) 16 34 (by rfl) (by rfl) (by decide) Tryd.underlying44 sizeS) ?_
          simp only [Act.put, List.setIfInBounds_toArray, List.set_cons_zero, List.set_cons_succ, List.getElem_toArray, List.getElem_cons_zero, List.getElem_cons_succ]
          refine RG.RunsIf.weak (by rfl) (by rfl) (fun Z hT => exec_load_mid 34 _ (by rfl) (g1) (0 * 16) (by rfl) (X (roundsL (beginL hs n la no) ms (0))) _ (hT.1.2.1 (0) (by decide)) Tryd.underlying34 rfl (IXA.out (0))) ?_
          simp only [Act.put, List.setIfInBounds_toArray, List.set_cons_zero, List.set_cons_succ, List.getElem_toArray, List.getElem_cons_zero, List.getElem_cons_succ]
          refine RG.RunsIf.weak (v := ?_) (by rfl) (by rfl) (fun Z hT => ?_) ?_
          rotate_left
          · go_simp
            rfl
          simp only [Act.put, List.setIfInBounds_toArray, List.set_cons_zero, List.set_cons_succ, List.getElem_toArray, List.getElem_cons_zero, List.getElem_cons_succ]
          refine RG.RunsIf.weak (by rfl) (by rfl) (fun Z hT => exec_load_mid 23 _ (by rfl) (B) 0 (by rfl) (hs.map (Value.int .u32)) _ (HSC.out Z B hT.1.1).1 Tryd.underlying23 rfl I8.out) ?_
          simp only [Act.put, List.setIfInBounds_toArray, List.set_cons_zero, List.set_cons_succ, List.getElem_toArray, List.getElem_cons_zero, List.getElem_cons_succ]
          refine RG.RunsIf.weak (v := ?_) (by rfl) (by rfl) (fun Z hT => ?_) ?_
          rotate_left
          · obtain ⟨_, _, c0, c1, c2⟩ := HSC.out Z B hT.1.1
            go_simp
            rfl
          simp only [Act.put, List.setIfInBounds_toArray, List.set_cons_zero, List.set_cons_succ, List.getElem_toArray, List.getElem_cons_zero, List.getElem_cons_succ]
          refine RG.RunsIf.weak (v := ?_) (by rfl) (by rfl) (fun Z hT => ?_) ?_
          rotate_left
          · obtain ⟨_, _, c0, c1, c2⟩ := HSC.out Z B hT.1.1
            go_simp
            rfl
          simp only [Act.put, List.setIfInBounds_toArray, List.set_cons_zero, List.set_cons_succ, List.getElem_toArray, List.getElem_cons_zero, List.getElem_cons_succ]
          refine RG.RunsIf.weak (v := ?_) (by rfl) (by rfl) (fun Z hT => ?_) ?_
          rotate_left
          · obtain ⟨_, _, c0, c1, c2⟩ := HSC.out Z B hT.1.1
            go_simp
            rfl
          simp only [Act.put, List.setIfInBounds_toArray, List.set_cons_zero, List.set_cons_succ, List.getElem_toArray, List.getElem_cons_zero, List.getElem_cons_succ]
          refine RG.RunsIf.weak (v := ?_) (by rfl) (by rfl) (fun Z hT => ?_) ?_
          rotate_left
          · obtain ⟨_, _, c0, c1, c2⟩ := HSC.out Z B hT.1.1
            go_simp
            rfl
          simp only [Act.put, List.setIfInBounds_toArray, List.set_cons_zero, List.set_cons_succ, List.getElem_toArray, List.getElem_cons_zero, List.getElem_cons_succ]
          refine RG.RunsIf.weak (v := ?_) (by rfl) (by rfl) (fun Z hT => ?_) ?_
          rotate_left
          · obtain ⟨_, _, c0, c1, c2⟩ := HSC.out Z B hT.1.1
            go_simp
            rfl
          simp only [Act.put, List.setIfInBounds_toArray, List.set_cons_zero, List.set_cons_succ, List.getElem_toArray, List.getElem_cons_zero, List.getElem_cons_succ]
          refine RG.RunsIf.weak (v := ?_) (by rfl) (by rfl) (fun Z hT => ?_) ?_
          rotate_left
          · obtain ⟨_, _, c0, c1, c2⟩ := HSC.out Z B hT.1.1
            go_simp
            rfl
          simp only [Act.put, List.setIfInBounds_toArray, List.set_cons_zero, List.set_cons_succ, List.getElem_toArray, List.getElem_cons_zero, List.getElem_cons_succ]
          exact RG.RunsIf.nil
        refine RG.wpL_stepw (i := 38) (by kernel_rfl) (by rfl) (by rfl) (fun KX hK => ?_)
        have HK := TW.hide hK
        clear hK
        go_simp
        refine (P4.out Y8 (hB ▸ H8.out.1.2.2.2)).mono ?_
        rintro e W3 ⟨rfl, hb3⟩
        have H9 : Hid ((W3.heap[B]? = some (.cells (runC hs ms n la no) 43 (0, 0)) ∧ (∀ j, j < 11 → W3.rangeAt g1 (j * 16) (X (roundsL (beginL hs n la no) ms j))) ∧ g1 < W3.heap.size ∧ Below B w W3) ∧ W3.heap[g]? = some (.cells (K .u32 hs) 23 (0, 0))) := ⟨⟨blk_keep H8.out.1.1 hb3, fun j hj => range_below (H8.out.1.2.1 j hj) H8.out.1.2.2.1 hb3, Nat.lt_of_lt_of_le H8.out.1.2.2.1 hb3.size, below_row H8.out.1.2.2.2 hb3 (by have := blk_lt H8.out.1.1; omega)⟩, blk_keep H8.out.2 hb3⟩
        refine HK.out _ _ H9.out (fun _ => trivial) ?_
        clear HK KX hb3
        try simp only [Act.put, List.setIfInBounds_toArray, List.set_cons_zero, List.set_cons_succ, List.getElem_toArray, List.getElem_cons_zero, List.getElem_cons_succ]
        refine RG.wpL_take (fuel := 0) (a' := ?Aux) [39, 40] (by kernel_rfl) (by kernel_rfl) (fun _ _ _ _ _ h => h) H9.out (fun _ => trivial) ?rux ?_
        case rux =>
          refine RG.RunsIf.weak (v := ?_) (by rfl) (by rfl) (fun Z hT => ?_) ?_
          rotate_left
          · have q := Q3.out Z
            go_simp
            rfl
          simp only [Act.put, List.setIfInBounds_toArray, List.set_cons_zero, List.set_cons_succ, List.getElem_toArray, List.getElem_cons_zero, List.getElem_cons_succ]
          refine RG.RunsIf.weak (v := ?_) (by rfl) (by rfl) (fun Z hT => ?_) ?_
          rotate_left
          · go_simp
            rfl
          simp only [Act.put, List.setIfInBounds_toArray, List.set_cons_zero, List.set_cons_succ, List.getElem_toArray, List.getElem_cons_zero, List.getElem_cons_succ]
          exact RG.RunsIf.nil
        refine RG.wpL_done (by kernel_rfl) ?_ _
        refine NoPanic.normal ?_
        go_wp2
        refine HK0.out _ _ ?_
        clear HK0 KK
        have HF : Hid (W3.heap[B]? = some (.cells (runC hs ms n la no) 43 (0, 0)) ∧ (∀ j, j < 11 → W3.rangeAt g1 (j * 16) (X (roundsL (beginL hs n la no) ms j))) ∧ g1 < W3.heap.size ∧ Below B w W3) := H9.out.1
        clear H9 H8 HD
        refine wp_seq ?_
        refine wp_region_noPanic ?_
        refine RG.wp_region_L (fun Z => True) (fun Z => Z.heap[B]? = some (.cells (runC hs ms n la no) 43 (0, 0)) ∧ (∀ j, j < 11 → Z.rangeAt g1 (j * 16) (X (roundsL (beginL hs n la no) ms j))) ∧ g1 < Z.heap.size ∧ Below B w Z) [] (by kernel_rfl) ?_
        refine RG.wpL_any fun Yvx hY => ?_
        have HTvx : Hid (Yvx.heap[B]? = some (.cells (runC hs ms n la no) 43 (0, 0)) ∧ (∀ j, j < 11 → Yvx.rangeAt g1 (j * 16) (X (roundsL (beginL hs n la no) ms j))) ∧ g1 < Yvx.heap.size ∧ Below B w Yvx) := by rw [hY]; exact ⟨HF.out.1, HF.out.2.1, HF.out.2.2.1, below_drewN HF.out.2.2.2 1⟩
        clear hY
        refine RG.wpL_take (fuel := 4) (a' := ?Avx) [0, 1, 2, 3, 4, 5, 6, 7, 8, 9, 11, 12, 13, 14, 15] (by kernel_rfl) (by kernel_rfl) (fun _ _ _ _ _ h => h) HTvx.out (fun _ => trivial) ?rvx ?_
        case rvx =>
          refine RG.RunsIf.weak (v := ?_) (by rfl) (by rfl) (fun Z hT => ?_) ?_
          rotate_left
          · go_simp
            rfl
          simp only [Act.put, List.setIfInBounds_toArray, List.set_cons_zero, List.set_cons_succ, List.getElem_toArray, List.getElem_cons_zero, List.getElem_cons_succ]
          refine RG.RunsIf.weak (by rfl) (by rfl) (fun Z hT => exec_load_mid 23 _ (by rfl) (B) 0 (by rfl) (hs.map (Value.int .u32)) _ (HSC.out Z B hT.1).1 Tryd.underlying23 rfl I8.out) ?_
          simp only [Act.put, List.setIfInBounds_toArray, List.set_cons_zero, List.set_cons_succ, List.getElem_toArray, List.getElem_cons_zero, List.getElem_cons_succ]
          refine RG.RunsIf.weak (v := ?_) (by rfl) (by rfl) (fun Z hT => ?_) ?_
          rotate_left
          · go_simp
            rfl
          simp only [Act.put, List.setIfInBounds_toArray, List.set_cons_zero, List.set_cons_succ, List.getElem_toArray, List.getElem_cons_zero, List.getElem_cons_succ]
          refine RG.RunsIf.weak (by rfl) (by rfl) (fun Z hT => exec_load_mid 34 _ (by rfl) (B) 8 (by rfl) (ms.map (Value.int .u32)) _ (HSC.out Z B hT.1).2.1 Tryd.underlying34 rfl I16.out) ?_
          simp only [Act.put, List.setIfInBounds_toArray, List.set_cons_zero, List.set_cons_succ, List.getElem_toArray, List.getElem_cons_zero, List.getElem_cons_succ]
          refine RG.RunsIf.weak (v := ?_) (by rfl) (by rfl) (fun Z hT => ?_) ?_
          rotate_left
          · obtain ⟨_, _, c0, c1, c2⟩ := HSC.out Z B hT.1
            go_simp
            rfl
          simp only [Act.put, List.setIfInBounds_toArray, List.set_cons_zero, List.set_cons_succ, List.getElem_toArray, List.getElem_cons_zero, List.getElem_cons_succ]
          refine RG.RunsIf.weak (v := ?_) (by rfl) (by rfl) (fun Z hT => ?_) ?_
          rotate_left
          · obtain ⟨_, _, c0, c1, c2⟩ := HSC.out Z B hT.1
            go_simp
            rfl
          simp only [Act.put, List.setIfInBounds_toArray, List.set_cons_zero, List.set_cons_succ, List.getElem_toArray, List.getElem_cons_zero, List.getElem_cons_succ]
          refine RG.RunsIf.weak (v := ?_) (by rfl) (by rfl) (fun Z hT => ?_) ?_
          rotate_left
          · obtain ⟨_, _, c0, c1, c2⟩ := HSC.out Z B hT.1
            go_simp
            rfl
          simp only [Act.put, List.setIfInBounds_toArray, List.set_cons_zero, List.set_cons_succ, List.getElem_toArray, List.getElem_cons_zero, List.getElem_cons_succ]
          refine RG.RunsIf.weak (v := ?_) (by rfl) (by rfl) (fun Z hT => ?_) ?_
          rotate_left
          · obtain ⟨_, _, c0, c1, c2⟩ := HSC.out Z B hT.1
            go_simp
            rfl
          simp only [Act.put, List.setIfInBounds_toArray, List.set_cons_zero, List.set_cons_succ, List.getElem_toArray, List.getElem_cons_zero, List.getElem_cons_succ]
          refine RG.RunsIf.weak (v := ?_) (by rfl) (by rfl) (fun Z hT => ?_) ?_
          rotate_left
          · obtain ⟨_, _, c0, c1, c2⟩ := HSC.out Z B hT.1
            go_simp
            rfl
          simp only [Act.put, List.setIfInBounds_toArray, List.set_cons_zero, List.set_cons_succ, List.getElem_toArray, List.getElem_cons_zero, List.getElem_cons_succ]
          refine RG.RunsIf.weak (v := ?_) (by rfl) (by rfl) (fun Z hT => ?_) ?_
          rotate_left
          · obtain ⟨_, _, c0, c1, c2⟩ := HSC.out Z B hT.1
            go_simp
            rfl
          simp only [Act.put, List.setIfInBounds_toArray, List.set_cons_zero, List.set_cons_succ, List.getElem_toArray, List.getElem_cons_zero, List.getElem_cons_succ]
          refine RG.RunsIf.weak (v := ?_) (by rfl) (by rfl) (fun Z hT => ?_) ?_
          rotate_left
          · go_simp
            rfl
          simp only [Act.put, List.setIfInBounds_toArray, List.set_cons_zero, List.set_cons_succ, List.getElem_toArray, List.getElem_cons_zero, List.getElem_cons_succ]
          refine RG.RunsIf.weak (by rfl) (by rfl) (fun Z hT => exec_load_mid 23 _ (by rfl) (B) 0 (by rfl) (hs.map (Value.int .u32)) _ (HSC.out Z B hT.1).1 Tryd.underlying23 rfl I8.out) ?_
          simp only [Act.put, List.setIfInBounds_toArray, List.set_cons_zero, List.set_cons_succ, List.getElem_toArray, List.getElem_cons_zero, List.getElem_cons_succ]
          refine RG.RunsIf.weak (v := ?_) (by rfl) (by rfl) (fun Z hT => ?_) ?_
          rotate_left
          · go_simp
            rfl
          simp only [Act.put, List.setIfInBounds_toArray, List.set_cons_zero, List.set_cons_succ, List.getElem_toArray, List.getElem_cons_zero, List.getElem_cons_succ]
          refine RG.RunsIf.weak (v := .pointer (some ⟨g1, 10 * 16, none⟩)) (by rfl) (by rfl) (fun Z hT => exec_indexAt 44 _ _ (by rfl) g1 11 cap1 (10) 16 34 (by rfl) (by rfl) (by decide) Tryd.underlying44 sizeS) ?_
          simp only [Act.put, List.setIfInBounds_toArray, List.set_cons_zero, List.set_cons_succ, List.getElem_toArray, List.getElem_cons_zero, List.getElem_cons_succ]
          refine RG.RunsIf.weak (by rfl) (by rfl) (fun Z hT => exec_load_mid 34 _ (by rfl) (g1) (10 * 16) (by rfl) (X (roundsL (beginL hs n la no) ms (10))) _ (hT.2.1 (10) (by decide)) Tryd.underlying34 rfl (IXA.out (10))) ?_
          simp only [Act.put, List.setIfInBounds_toArray, List.set_cons_zero, List.set_cons_succ, List.getElem_toArray, List.getElem_cons_zero, List.getElem_cons_succ]
          exact RG.RunsIf.nil
        refine RG.wpL_step (i := 10) (by kernel_rfl) (by rfl) (by rfl) (fun KX hK => ?_)
        have HK := TW.hide hK
        clear hK
        go_simp
        refine (P5.out Yvx (hB ▸ HTvx.out.2.2.2)).mono ?_
        rintro e W4 ⟨rfl, hb4⟩
        have H10 : Hid (W4.heap[B]? = some (.cells (runC hs ms n la no) 43 (0, 0)) ∧ (∀ j, j < 11 → W4.rangeAt g1 (j * 16) (X (roundsL (beginL hs n la no) ms j))) ∧ g1 < W4.heap.size ∧ Below B w W4) := ⟨blk_keep HTvx.out.1 hb4, fun j hj => range_below (HTvx.out.2.1 j hj) HTvx.out.2.2.1 hb4, Nat.lt_of_lt_of_le HTvx.out.2.2.1 hb4.size, below_row HTvx.out.2.2.2 hb4 (by have := blk_lt HTvx.out.1; omega)⟩
        refine HK.out _ _ H10.out (fun _ => trivial) ?_
        clear HK KX hb4
        refine RG.wpL_step (i := 16) (by kernel_rfl) (by rfl) (by rfl) (fun KX hK => ?_)
        have HK := TW.hide hK
        clear hK
        go_simp
        refine (P6.out W4).mono ?_
        rintro e W5 ⟨rfl, hb5⟩
        have H11 : Hid (W5.heap[B]? = some (.cells (runC hs ms n la no) 43 (0, 0)) ∧ (∀ j, j < 11 → W5.rangeAt g1 (j * 16) (X (roundsL (beginL hs n la no) ms j))) ∧ g1 < W5.heap.size ∧ Below B w W5) := ⟨blk_keep H10.out.1 hb5, fun j hj => range_below (H10.out.2.1 j hj) H10.out.2.2.1 hb5, Nat.lt_of_lt_of_le H10.out.2.2.1 hb5.size, below_row H10.out.2.2.2 hb5 (by have := blk_lt H10.out.1; omega)⟩
        refine HK.out _ _ H11.out (fun _ => trivial) ?_
        clear HK KX hb5
        try simp only [Act.put, List.setIfInBounds_toArray, List.set_cons_zero, List.set_cons_succ, List.getElem_toArray, List.getElem_cons_zero, List.getElem_cons_succ]
        refine RG.wpL_take (fuel := 1) (a' := ?Azx) [17] (by kernel_rfl) (by kernel_rfl) (fun _ _ _ _ _ h => h) H11.out (fun _ => trivial) ?rzx ?_
        case rzx =>
          refine RG.RunsIf.weak (v := ?_) (by rfl) (by rfl) (fun Z hT => ?_) ?_
          rotate_left
          · have q := Q4.out Z
            go_simp
            rfl
          simp only [Act.put, List.setIfInBounds_toArray, List.set_cons_zero, List.set_cons_succ, List.getElem_toArray, List.getElem_cons_zero, List.getElem_cons_succ]
          exact RG.RunsIf.nil
        refine RG.wpL_step (i := 18) (by kernel_rfl) (by rfl) (by rfl) (fun KX hK => ?_)
        have HK := TW.hide hK
        clear hK
        go_simp
        refine HK.out _ _ H11.out (fun _ => trivial) ?_
        clear HK KX
        refine RG.wpL_done (by kernel_rfl) ?_ _
        refine NoPanic.normal ?_
        go_wp2
        go_ret
        exact ⟨rfl, H11.out.2.2.2⟩
      · have HK := TW.hide hK
        clear hK
        have hg0 : B < Yc.heap.size := blk_lt HTc.out.1
        have hg00 : g1 < Yc.heap.size := HTc.out.2.2.1
        have Ha : Hid ((Yc.alloc (.cells #[.int .u32 0, .int .u32 0, .int .u32 0, .int .u32 0, .int .u32 0, .int .u32 0, .int .u32 0, .int .u32 0] 23)).heap[B]? = some (.cells (runC hs ms n la no) 43 (0, 0)) ∧ (∀ j, j < 11 → (Yc.alloc (.cells #[.int .u32 0, .int .u32 0, .int .u32 0, .int .u32 0, .int .u32 0, .int .u32 0, .int .u32 0, .int .u32 0] 23)).rangeAt g1 (j * 16) (X (roundsL (beginL hs n la no) ms j))) ∧ g1 < (Yc.alloc (.cells #[.int .u32 0, .int .u32 0, .int .u32 0, .int .u32 0, .int .u32 0, .int .u32 0, .int .u32 0, .int .u32 0] 23)).heap.size ∧ Below B w (Yc.alloc (.cells #[.int .u32 0, .int .u32 0, .int .u32 0, .int .u32 0, .int .u32 0, .int .u32 0, .int .u32 0, .int .u32 0] 23))) := ⟨blk_alloc HTc.out.1, fun j hj => range_below (HTc.out.2.1 j hj) HTc.out.2.2.1 ((Below.refl _ _).alloc (Nat.le_refl _) _), by have := HTc.out.2.2.1; simp; omega, HTc.out.2.2.2.alloc (by have := HTc.out.2.2.2.size; omega) _⟩
        have Na := TW.hide (heap_new Yc (.cells #[.int .u32 0, .int .u32 0, .int .u32 0, .int .u32 0, .int .u32 0, .int .u32 0, .int .u32 0, .int .u32 0] 23))
        go_simp
        refine HK.out _ _ Ha.out (fun _ => trivial) ?_
        clear HK KX HTc
        generalize Yc.alloc (.cells #[.int .u32 0, .int .u32 0, .int .u32 0, .int .u32 0, .int .u32 0, .int .u32 0, .int .u32 0, .int .u32 0] 23) = X0 at *
        generalize Yc.heap.size = g at *
        try simp only [Act.put, List.setIfInBounds_toArray, List.set_cons_zero, List.set_cons_succ, List.getElem_toArray, List.getElem_cons_zero, List.getElem_cons_succ]
        refine RG.wpL_step (i := 5) (by kernel_rfl) (by rfl) (by rfl) (fun KX hK => ?_)
        have HK := TW.hide hK
        clear hK
        go_simp
        refine (P3.out X0 (hB ▸ Ha.out.2.2.2)).mono ?_
        rintro e X2 ⟨rfl, hb1⟩
        have Hc : Hid (X2.heap[B]? = some (.cells (runC hs ms n la no) 43 (0, 0)) ∧ (∀ j, j < 11 → X2.rangeAt g1 (j * 16) (X (roundsL (beginL hs n la no) ms j))) ∧ g1 < X2.heap.size ∧ Below B w X2) := ⟨blk_keep Ha.out.1 hb1, fun j hj => range_below (Ha.out.2.1 j hj) Ha.out.2.2.1 hb1, Nat.lt_of_lt_of_le Ha.out.2.2.1 hb1.size, below_row Ha.out.2.2.2 hb1 (by have := blk_lt Ha.out.1; omega)⟩
        have Nc := TW.hide (blk_keep Na.out hb1)
        refine HK.out _ _ Hc.out (fun _ => trivial) ?_
        clear HK KX hb1 Ha Na
        try simp only [Act.put, List.setIfInBounds_toArray, List.set_cons_zero, List.set_cons_succ, List.getElem_toArray, List.getElem_cons_zero, List.getElem_cons_succ]
        refine RG.wpL_take (fuel := 5) (a' := ?Acq) [6, 7, 8, 9, 10, 11] (by kernel_rfl) (by kernel_rfl) (fun _ _ _ _ _ h => h) Hc.out (fun _ => trivial) ?rcq ?_
        case rcq =>
          refine RG.RunsIf.weak (v := ?_) (by rfl) (by rfl) (fun Z hT => ?_) ?_
          rotate_left
          · go_simp
            rfl
          simp only [Act.put, List.setIfInBounds_toArray, List.set_cons_zero, List.set_cons_succ, List.getElem_toArray, List.getElem_cons_zero, List.getElem_cons_succ]
          refine RG.RunsIf.weak (v := ?_) (by rfl) (by rfl) (fun Z hT => ?_) ?_
          rotate_left
          · go_simp
            rfl
          simp only [Act.put, List.setIfInBounds_toArray, List.set_cons_zero, List.set_cons_succ, List.getElem_toArray, List.getElem_cons_zero, List.getElem_cons_succ]
          refine RG.RunsIf.weak (v := ?_) (by rfl) (by rfl) (fun Z hT => ?_) ?_
          rotate_left
          · go_simp
            rfl
          simp only [Act.put, List.setIfInBounds_toArray, List.set_cons_zero, List.set_cons_succ, List.getElem_toArray, List.getElem_cons_zero, List.getElem_cons_succ]
          refine RG.RunsIf.weak (v := ?_) (by rfl) (by rfl) (fun Z hT => ?_) ?_
          rotate_left
          · go_simp
            rfl
          simp only [Act.put, List.setIfInBounds_toArray, List.set_cons_zero, List.set_cons_succ, List.getElem_toArray, List.getElem_cons_zero, List.getElem_cons_succ]
          refine RG.RunsIf.weak (v := ?_) (by rfl) (by rfl) (fun Z hT => ?_) ?_
          rotate_left
          · go_simp
            rfl
          simp only [Act.put, List.setIfInBounds_toArray, List.set_cons_zero, List.set_cons_succ, List.getElem_toArray, List.getElem_cons_zero, List.getElem_cons_succ]
          refine RG.RunsIf.weak (v := ?_) (by rfl) (by rfl) (fun Z hT => ?_) ?_
          rotate_left
          · go_simp
            rfl
          simp only [Act.put, List.setIfInBounds_toArray, List.set_cons_zero, List.set_cons_succ, List.getElem_toArray, List.getElem_cons_zero, List.getElem_cons_succ]
          exact RG.RunsIf.nil
        have hgl2 : g < X2.heap.size := blk_lt Nc.out
        have T52 : Hid ((X2.setRow g (K .u32 hs)).heap[B]? = some (.cells (runC hs ms n la no) 43 (0, 0)) ∧ (∀ j, j < 11 → (X2.setRow g (K .u32 hs)).rangeAt g1 (j * 16) (X (roundsL (beginL hs n la no) ms j))) ∧ g1 < (X2.setRow g (K .u32 hs)).heap.size ∧ Below B w (X2.setRow g (K .u32 hs))) := ⟨by rw [setRow_other _ _ _ _ (by have := blk_lt Hc.out.1; omega)]; exact Hc.out.1, fun j hj => range_setRow (Hc.out.2.1 j hj) (by omega), by simp; exact Hc.out.2.2.1, below_setRow Hc.out.2.2.2 (by have := blk_lt Hc.out.1; omega)⟩
        have N52 := TW.hide (setRow_heap _ _ _ (K .u32 hs) _ _ Nc.out)
        refine RG.wpL_step (i := 13) (by kernel_rfl) (by rfl) (by rfl) (fun KX hK => ?_)
        have HK := TW.hide hK
        clear hK
        refine wp_store_row 23 _ _ (by rfl) g (K .u32 hs) (by rfl) (by rfl) 23 _ Nc.out K8.out O8.out (K_one _ _) ?_
        simp only [Act.put, List.setIfInBounds_toArray, List.set_cons_zero, List.set_cons_succ, List.getElem_toArray, List.getElem_cons_zero, List.getElem_cons_succ]
        refine HK.out _ _ T52.out (fun _ => trivial) ?_
        clear HK KX Hc Nc
        generalize X2.setRow g (K .u32 hs) = Z2 at *
        refine RG.wpL_step (i := 14) (by kernel_rfl) (by rfl) (by rfl) (fun KX hK => ?_)
        have HK := TW.hide hK
        clear hK
        go_simp
        refine HK.out _ _ T52.out (fun _ => trivial) ?_
        clear HK KX
        refine RG.wpL_step (i := 15) (by kernel_rfl) (by rfl) (by rfl) (fun KX hK => ?_)
        have HK := TW.hide hK
        clear hK
        go_simp
        refine HK.out _ _ T52.out (fun _ => trivial) ?_
        clear HK KX
        refine RG.wpL_step (i := 16) (by kernel_rfl) (by rfl) (by rfl) (fun KX hK => ?_)
        have HK := TW.hide hK
        clear hK
        go_simp
        refine HK.out _ _ T52.out (fun _ => trivial) ?_
        clear HK KX
        refine RG.wpL_step (i := 17) (by kernel_rfl) (by rfl) (by rfl) (fun KX hK => ?_)
        have HK := TW.hide hK
        clear hK
        go_simp
        refine HK.out _ _ T52.out (fun _ => trivial) ?_
        clear HK KX
        refine RG.wpL_done (by kernel_rfl) ?_ _
        refine NoPanic.normal ?_
        have HD : Hid ((Z2.heap[B]? = some (.cells (runC hs ms n la no) 43 (0, 0)) ∧ (∀ j, j < 11 → Z2.rangeAt g1 (j * 16) (X (roundsL (beginL hs n la no) ms j))) ∧ g1 < Z2.heap.size ∧ Below B w Z2) ∧ Z2.heap[g]? = some (.cells (K .u32 hs) 23 (0, 0))) := ⟨T52.out, N52.out⟩
        clear T52 N52
        refine wp_seq_k fun KK hK => ?_
        have HK0 := TW.hide hK
        clear hK
        refine wp_seq ?_
        refine wp_region_noPanic ?_
        refine RG.wp_region_L (fun Z => True) (fun Z => (Z.heap[B]? = some (.cells (runC hs ms n la no) 43 (0, 0)) ∧ (∀ j, j < 11 → Z.rangeAt g1 (j * 16) (X (roundsL (beginL hs n la no) ms j))) ∧ g1 < Z.heap.size ∧ Below B w Z) ∧ Z.heap[g]? = some (.cells (K .u32 hs) 23 (0, 0))) [] (by kernel_rfl) ?_
        refine RG.wpL_any fun Y8 hY => ?_
        have H8 : Hid ((Y8.heap[B]? = some (.cells (runC hs ms n la no) 43 (0, 0)) ∧ (∀ j, j < 11 → Y8.rangeAt g1 (j * 16) (X (roundsL (beginL hs n la no) ms j))) ∧ g1 < Y8.heap.size ∧ Below B w Y8) ∧ Y8.heap[g]? = some (.cells (K .u32 hs) 23 (0, 0))) := by rw [hY]; exact ⟨⟨HD.out.1.1, HD.out.1.2.1, HD.out.1.2.2.1, below_drewN HD.out.1.2.2.2 1⟩, HD.out.2⟩
        clear hY
        refine RG.wpL_take (fuel := 3) (a' := ?Aty) [0, 1, 2, 3, 4, 5, 6, 7, 8, 9, 10, 11, 12, 13, 14, 15, 16, 17, 18, 19, 20, 21, 22, 23, 24, 25, 26, 27, 28, 29, 30, 31, 32, 33, 34, 35, 36, 37] (by kernel_rfl) (by kernel_rfl) (fun _ _ _ _ _ h => h) H8.out (fun _ => trivial) ?rty ?_
        case rty =>
          refine RG.RunsIf.weak (v := ?_) (by rfl) (by rfl) (fun Z hT => ?_) ?_
          rotate_left
          · go_simp
            rfl
          simp only [Act.put, List.setIfInBounds_toArray, List.set_cons_zero, List.set_cons_succ, List.getElem_toArray, List.getElem_cons_zero, List.getElem_cons_succ]
          refine RG.RunsIf.weak (v := ?_) (by rfl) (by rfl) (fun Z hT => ?_) ?_
          rotate_left
          · go_simp
            rfl
          simp only [Act.put, List.setIfInBounds_toArray, List.set_cons_zero, List.set_cons_succ, List.getElem_toArray, List.getElem_cons_zero, List.getElem_cons_succ]
          refine RG.RunsIf.weak (v := ?_) (by rfl) (by rfl) (fun Z hT => ?_) ?_
          rotate_left
          · go_simp
            rfl
          simp only [Act.put, List.setIfInBounds_toArray, List.set_cons_zero, List.set_cons_succ, List.getElem_toArray, List.getElem_cons_zero, List.getElem_cons_succ]
          refine RG.RunsIf.weak (by rfl) (by rfl) (fun Z hT => exec_load_row' 23 _ (by rfl) (g) (by rfl) 23 (K .u32 hs) (0, 0) _ hT.2 Tryd.underlying23 rfl K8.out) ?_
          simp only [Act.put, List.setIfInBounds_toArray, List.set_cons_zero, List.set_cons_succ, List.getElem_toArray, List.getElem_cons_zero, List.getElem_cons_succ]
          refine RG.RunsIf.weak (v := ?_) (by rfl) (by rfl) (fun Z hT => ?_) ?_
          rotate_left
          · go_simp
            rfl
          simp only [Act.put, List.setIfInBounds_toArray, List.set_cons_zero, List.set_cons_succ, List.getElem_toArray, List.getElem_cons_zero, List.getElem_cons_succ]
          refine RG.RunsIf.weak (by rfl) (by rfl) (fun Z hT => exec_load_mid 23 _ (by rfl) (B) 0 (by rfl) (hs.map (Value.int .u32)) _ (HSC.out Z B hT.1.1).1 Tryd.underlying23 rfl I8.out) ?_
          simp only [Act.put, List.setIfInBounds_toArray, List.set_cons_zero, List.set_cons_succ, List.getElem_toArray, List.getElem_cons_zero, List.getElem_cons_succ]
          refine RG.RunsIf.weak (v := ?_) (by rfl) (by rfl) (fun Z hT => ?_) ?_
          rotate_left
          · have q := Q2.out Z
            go_simp
            rfl
          simp only [Act.put, List.setIfInBounds_toArray, List.set_cons_zero, List.set_cons_succ, List.getElem_toArray, List.getElem_cons_zero, List.getElem_cons_succ]
          refine RG.RunsIf.weak (v := ?_) (by rfl) (by rfl) (fun Z hT => ?_) ?_
          rotate_left
          · go_simp
            rfl
          simp only [Act.put, List.setIfInBounds_toArray, List.set_cons_zero, List.set_cons_succ, List.getElem_toArray, List.getElem_cons_zero, List.getElem_cons_succ]
          refine RG.RunsIf.weak (v := ?_) (by rfl) (by rfl) (fun Z hT => ?_) ?_
          rotate_left
          · go_simp
            rfl
          simp only [Act.put, List.setIfInBounds_toArray, List.set_cons_zero, List.set_cons_succ, List.getElem_toArray, List.getElem_cons_zero, List.getElem_cons_succ]
          refine RG.RunsIf.weak (v := ?_) (by rfl) (by rfl) (fun Z hT => ?_) ?_
          rotate_left
          · go_simp
            rfl
          simp only [Act.put, List.setIfInBounds_toArray, List.set_cons_zero, List.set_cons_succ, List.getElem_toArray, List.getElem_cons_zero, List.getElem_cons_succ]
          refine RG.RunsIf.weak (v := ?_) (by rfl) (by rfl) (fun Z hT => ?_) ?_
          rotate_left
          · obtain ⟨_, _, c0, c1, c2⟩ := HSC.out Z B hT.1.1
            go_simp
            rfl
          simp only [Act.put, List.setIfInBounds_toArray, List.set_cons_zero, List.set_cons_succ, List.getElem_toArray, List.getElem_cons_zero, List.getElem_cons_succ]
          refine RG.RunsIf.weak (v := ?_) (by rfl) (by rfl) (fun Z hT => ?_) ?_
          rotate_left
          · obtain ⟨_, _, c0, c1, c2⟩ := HSC.out Z B hT.1.1
            go_simp
            rfl
          simp only [Act.put, List.setIfInBounds_toArray, List.set_cons_zero, List.set_cons_succ, List.getElem_toArray, List.getElem_cons_zero, List.getElem_cons_succ]
          refine RG.RunsIf.weak (v := (.bool false)) (by rfl) (by rfl) (fun Z hT => ?_) ?_
          · go_simp
          simp only [Act.put, List.setIfInBounds_toArray, List.set_cons_zero, List.set_cons_succ, List.getElem_toArray, List.getElem_cons_zero, List.getElem_cons_succ]
          refine RG.RunsIf.weak (v := ?_) (by rfl) (by rfl) (fun Z hT => ?_) ?_
          rotate_left
          · go_simp
            rfl
          simp only [Act.put, List.setIfInBounds_toArray, List.set_cons_zero, List.set_cons_succ, List.getElem_toArray, List.getElem_cons_zero, List.getElem_cons_succ]
          refine RG.RunsIf.weak (v := ?_) (by rfl) (by rfl) (fun Z hT => ?_) ?_
          rotate_left
          · go_simp
            rfl
          simp only [Act.put, List.setIfInBounds_toArray, List.set_cons_zero, List.set_cons_succ, List.getElem_toArray, List.getElem_cons_zero, List.getElem_cons_succ]
          refine RG.RunsIf.weak (v := ?_) (by rfl) (by rfl) (fun Z hT => ?_) ?_
          rotate_left
          · go_simp
            rfl
          simp only [Act.put, List.setIfInBounds_toArray, List.set_cons_zero, List.set_cons_succ, List.getElem_toArray, List.getElem_cons_zero, List.getElem_cons_succ]
          refine RG.RunsIf.weak (v := ?_) (by rfl) (by rfl) (fun Z hT => ?_) ?_
          rotate_left
          · obtain ⟨_, _, c0, c1, c2⟩ := HSC.out Z B hT.1.1
            go_simp
            rfl
          simp only [Act.put, List.setIfInBounds_toArray, List.set_cons_zero, List.set_cons_succ, List.getElem_toArray, List.getElem_cons_zero, List.getElem_cons_succ]
          refine RG.RunsIf.weak (v := ?_) (by rfl) (by rfl) (fun Z hT => ?_) ?_
          rotate_left
          · obtain ⟨_, _, c0, c1, c2⟩ := HSC.out Z B hT.1.1
            go_simp
            rfl
          simp only [Act.put, List.setIfInBounds_toArray, List.set_cons_zero, List.set_cons_succ, List.getElem_toArray, List.getElem_cons_zero, List.getElem_cons_succ]
          refine RG.RunsIf.weak (v := (.bool false)) (by rfl) (by rfl) (fun Z hT => ?_) ?_
          · go_simp
          simp only [Act.put, List.setIfInBounds_toArray, List.set_cons_zero, List.set_cons_succ, List.getElem_toArray, List.getElem_cons_zero, List.getElem_cons_succ]
          refine RG.RunsIf.weak (v := ?_) (by rfl) (by rfl) (fun Z hT => ?_) ?_
          rotate_left
          · go_simp
            rfl
          simp only [Act.put, List.setIfInBounds_toArray, List.set_cons_zero, List.set_cons_succ, List.getElem_toArray, List.getElem_cons_zero, List.getElem_cons_succ]
          refine RG.RunsIf.weak (v := ?_) (by rfl) (by rfl) (fun Z hT => ?_) ?_
          rotate_left
          · go_simp
            rfl
          simp only [Act.put, List.setIfInBounds_toArray, List.set_cons_zero, List.set_cons_succ, List.getElem_toArray, List.getElem_cons_zero, List.getElem_cons_succ]
          refine RG.RunsIf.weak (v := ?_) (by rfl) (by rfl) (fun Z hT => ?_) ?_
          rotate_left
          · go_simp
            rfl
          simp only [Act.put, List.setIfInBounds_toArray, List.set_cons_zero, List.set_cons_succ, List.getElem_toArray, List.getElem_cons_zero, List.getElem_cons_succ]
          refine RG.RunsIf.weak (v := ?_) (by rfl) (by rfl) (fun Z hT => ?_) ?_
          rotate_left
          · obtain ⟨_, _, c0, c1, c2⟩ := HSC.out Z B hT.1.1
            go_simp
            rfl
          simp only [Act.put, List.setIfInBounds_toArray, List.set_cons_zero, List.set_cons_succ, List.getElem_toArray, List.getElem_cons_zero, List.getElem_cons_succ]
          refine RG.RunsIf.weak (v := ?_) (by rfl) (by rfl) (fun Z hT => ?_) ?_
          rotate_left
          · obtain ⟨_, _, c0, c1, c2⟩ := HSC.out Z B hT.1.1
            go_simp
            rfl
          simp only [Act.put, List.setIfInBounds_toArray, List.set_cons_zero, List.set_cons_succ, List.getElem_toArray, List.getElem_cons_zero, List.getElem_cons_succ]
          refine RG.RunsIf.weak (v := (.bool false)) (by rfl) (by rfl) (fun Z hT => ?_) ?_
          · go_simp
          simp only [Act.put, List.setIfInBounds_toArray, List.set_cons_zero, List.set_cons_succ, List.getElem_toArray, List.getElem_cons_zero, List.getElem_cons_succ]
          refine RG.RunsIf.weak (v := ?_) (by rfl) (by rfl) (fun Z hT => ?_) ?_
          rotate_left
          · go_simp
            rfl
          simp only [Act.put, List.setIfInBounds_toArray, List.set_cons_zero, List.set_cons_succ, List.getElem_toArray, List.getElem_cons_zero, List.getElem_cons_succ]
          refine RG.RunsIf.weak (v := ?_) (by rfl) (by rfl) (fun Z hT => ?_) ?_
          rotate_left
          · go_simp
            rfl
          simp only [Act.put, List.setIfInBounds_toArray, List.set_cons_zero, List.set_cons_succ, List.getElem_toArray, List.getElem_cons_zero, List.getElem_cons_succ]
          refine RG.RunsIf.weak (v := ?_) (by rfl) (by rfl) (fun Z hT => ?_) ?_
          rotate_left
          · go_simp
            rfl
          simp only [Act.put, List.setIfInBounds_toArray, List.set_cons_zero, List.set_cons_succ, List.getElem_toArray, List.getElem_cons_zero, List.getElem_cons_succ]
          refine RG.RunsIf.weak (v := .pointer (some ⟨g1, 0 * 16, none⟩)) (by rfl) (by rfl) (fun Z hT => exec_indexAt 44 _ _ (by rfl) g1 11 cap1 (0) 16 34 (by rfl) (by rfl) (by decide) Tryd.underlying44 sizeS) ?_
          simp only [Act.put, List.setIfInBounds_toArray, List.set_cons_zero, List.set_cons_succ, List.getElem_toArray, List.getElem_cons_zero, List.getElem_cons_succ]
          refine RG.RunsIf.weak (by rfl) (by rfl) (fun Z hT => exec_load_mid 34 _ (by rfl) (g1) (0 * 16) (by rfl) (X (roundsL (beginL hs n la no) ms (0))) _ (hT.1.2.1 (0) (by decide)) Tryd.underlying34 rfl (IXA.out (0))) ?_
          simp only [Act.put, List.setIfInBounds_toArray, List.set_cons_zero, List.set_cons_succ, List.getElem_toArray, List.getElem_cons_zero, List.getElem_cons_succ]
          refine RG.RunsIf.weak (v := ?_) (by rfl) (by rfl) (fun Z hT => ?_) ?_
          rotate_left
          · go_simp
            rfl
          simp only [Act.put, List.setIfInBounds_toArray, List.set_cons_zero, List.set_cons_succ, List.getElem_toArray, List.getElem_cons_zero, List.getElem_cons_succ]
          refine RG.RunsIf.weak (by rfl) (by rfl) (fun Z hT => exec_load_mid 23 _ (by rfl) (B) 0 (by rfl) (hs.map (Value.int .u32)) _ (HSC.out Z B hT.1.1).1 Tryd.underlying23 rfl I8.out) ?_
          simp only [Act.put, List.setIfInBounds_toArray, List.set_cons_zero, List.set_cons_succ, List.getElem_toArray, List.getElem_cons_zero, List.getElem_cons_succ]
          refine RG.RunsIf.weak (v := ?_) (by rfl) (by rfl) (fun Z hT => ?_) ?_
          rotate_left
          · obtain ⟨_, _, c0, c1, c2⟩ := HSC.out Z B hT.1.1
            go_simp
            rfl
          simp only [Act.put, List.setIfInBounds_toArray, List.set_cons_zero, List.set_cons_succ, List.getElem_toArray, List.getElem_cons_zero, List.getElem_cons_succ]
          refine RG.RunsIf.weak (v := ?_) (by rfl) (by rfl) (fun Z hT => ?_) ?_
          rotate_left
          · obtain ⟨_, _, c0, c1, c2⟩ := HSC.out Z B hT.1.1
            go_simp
            rfl
          simp only [Act.put, List.setIfInBounds_toArray, List.set_cons_zero, List.set_cons_succ, List.getElem_toArray, List.getElem_cons_zero, List.getElem_cons_succ]
          refine RG.RunsIf.weak (v := ?_) (by rfl) (by rfl) (fun Z hT => ?_) ?_
          rotate_left
          · obtain ⟨_, _, c0, c1, c2⟩ := HSC.out Z B hT.1.1
            go_simp
            rfl
          simp only [Act.put, List.setIfInBounds_toArray, List.set_cons_zero, List.set_cons_succ, List.getElem_toArray, List.getElem_cons_zero, List.getElem_cons_succ]
          refine RG.RunsIf.weak (v := ?_) (by rfl) (by rfl) (fun Z hT => ?_) ?_
          rotate_left
          · obtain ⟨_, _, c0, c1, c2⟩ := HSC.out Z B hT.1.1
            go_simp
            rfl
          simp only [Act.put, List.setIfInBounds_toArray, List.set_cons_zero, List.set_cons_succ, List.getElem_toArray, List.getElem_cons_zero, List.getElem_cons_succ]
          refine RG.RunsIf.weak (v := ?_) (by rfl) (by rfl) (fun Z hT => ?_) ?_
          rotate_left
          · obtain ⟨_, _, c0, c1, c2⟩ := HSC.out Z B hT.1.1
            go_simp
            rfl
          simp only [Act.put, List.setIfInBounds_toArray, List.set_cons_zero, List.set_cons_succ, List.getElem_toArray, List.getElem_cons_zero, List.getElem_cons_succ]
          refine RG.RunsIf.weak (v := ?_) (by rfl) (by rfl) (fun Z hT => ?_) ?_
          rotate_left
          · obtain ⟨_, _, c0, c1, c2⟩ := HSC.out Z B hT.1.1
            go_simp
            rfl
          simp only [Act.put, List.setIfInBounds_toArray, List.set_cons_zero, List.set_cons_succ, List.getElem_toArray, List.getElem_cons_zero, List.getElem_cons_succ]
          exact RG.RunsIf.nil
        refine RG.wpL_stepw (i := 38) (by kernel_rfl) (by rfl) (by rfl) (fun KX hK => ?_)
        have HK := TW.hide hK
        clear hK
        go_simp
        refine (P4.out Y8 (hB ▸ H8.out.1.2.2.2)).mono ?_
        rintro e W3 ⟨rfl, hb3⟩
        have H9 : Hid ((W3.heap[B]? = some (.cells (runC hs ms n la no) 43 (0, 0)) ∧ (∀ j, j < 11 → W3.rangeAt g1 (j * 16) (X (roundsL (beginL hs n la no) ms j))) ∧ g1 < W3.heap.size ∧ Below B w W3) ∧ W3.heap[g]? = some (.cells (K .u32 hs) 23 (0, 0))) := ⟨⟨blk_keep H8.out.1.1 hb3, fun j hj => range_below (H8.out.1.2.1 j hj) H8.out.1.2.2.1 hb3, Nat.lt_of_lt_of_le H8.out.1.2.2.1 hb3.size, below_row H8.out.1.2.2.2 hb3 (by have := blk_lt H8.out.1.1; omega)⟩, blk_keep H8.out.2 hb3⟩
        refine HK.out _ _ H9.out (fun _ => trivial) ?_
        clear HK KX hb3
        try simp only [Act.put, List.setIfInBounds_toArray, List.set_cons_zero, List.set_cons_succ, List.getElem_toArray, List.getElem_cons_zero, List.getElem_cons_succ]
        refine RG.wpL_take (fuel := 0) (a' := ?Auy) [39, 40] (by kernel_rfl) (by kernel_rfl) (fun _ _ _ _ _ h => h) H9.out (fun _ => trivial) ?ruy ?_
        case ruy =>
          refine RG.RunsIf.weak (v := ?_) (by rfl) (by rfl) (fun Z hT => ?_) ?_
          rotate_left
          · have q := Q3.out Z
            go_simp
            rfl
          simp only [Act.put, List.setIfInBounds_toArray, List.set_cons_zero, List.set_cons_succ, List.getElem_toArray, List.getElem_cons_zero, List.getElem_cons_succ]
          refine RG.RunsIf.weak (v := ?_) (by rfl) (by rfl) (fun Z hT => ?_) ?_
          rotate_left
          · go_simp
            rfl
          simp only [Act.put, List.setIfInBounds_toArray, List.set_cons_zero, List.set_cons_succ, List.getElem_toArray, List.getElem_cons_zero, List.getElem_cons_succ]
          exact RG.RunsIf.nil
        refine RG.wpL_done (by kernel_rfl) ?_ _
        refine NoPanic.normal ?_
        go_wp2
        refine HK0.out _ _ ?_
        clear HK0 KK
        have HF : Hid (W3.heap[B]? = some (.cells (runC hs ms n la no) 43 (0, 0)) ∧ (∀ j, j < 11 → W3.rangeAt g1 (j * 16) (X (roundsL (beginL hs n la no) ms j))) ∧ g1 < W3.heap.size ∧ Below B w W3) := H9.out.1
        clear H9 H8 HD
        refine wp_seq ?_
        refine wp_region_noPanic ?_
        refine RG.wp_region_L (fun Z => True) (fun Z => Z.heap[B]? = some (.cells (runC hs ms n la no) 43 (0, 0)) ∧ (∀ j, j < 11 → Z.rangeAt g1 (j * 16) (X (roundsL (beginL hs n la no) ms j))) ∧ g1 < Z.heap.size ∧ Below B w Z) [] (by kernel_rfl) ?_
        refine RG.wpL_any fun Yvy hY => ?_
        have HTvy : Hid (Yvy.heap[B]? = some (.cells (runC hs ms n la no) 43 (0, 0)) ∧ (∀ j, j < 11 → Yvy.rangeAt g1 (j * 16) (X (roundsL (beginL hs n la no) ms j))) ∧ g1 < Yvy.heap.size ∧ Below B w Yvy) := by rw [hY]; exact ⟨HF.out.1, HF.out.2.1, HF.out.2.2.1, below_drewN HF.out.2.2.2 1⟩
        clear hY
        refine RG.wpL_take (fuel := 4) (a' := ?Avy) [0, 1, 2, 3, 4, 5, 6, 7, 8, 9, 11, 12, 13, 14, 15] (by kernel_rfl) (by kernel_rfl) (fun _ _ _ _ _ h => h) HTvy.out (fun _ => trivial) ?rvy ?_
        case rvy =>
          refine RG.RunsIf.weak (v := ?_) (by rfl) (by rfl) (fun Z hT => ?_) ?_
          rotate_left
          · go_simp
            rfl
          simp only [Act.put, List.setIfInBounds_toArray, List.set_cons_zero, List.set_cons_succ, List.getElem_toArray, List.getElem_cons_zero, List.getElem_cons_succ]
          refine RG.RunsIf.weak (by rfl) (by rfl) (fun Z hT => exec_load_mid 23 _ (by rfl) (B) 0 (by rfl) (hs.map (Value.int .u32)) _ (HSC.out Z B hT.1).1 Tryd.underlying23 rfl I8.out) ?_
          simp only [Act.put, List.setIfInBounds_toArray, List.set_cons_zero, List.set_cons_succ, List.getElem_toArray, List.getElem_cons_zero, List.getElem_cons_succ]
          refine RG.RunsIf.weak (v := ?_) (by rfl) (by rfl) (fun Z hT => ?_) ?_
          rotate_left
          · go_simp
            rfl
          simp only [Act.put, List.setIfInBounds_toArray, List.set_cons_zero, List.set_cons_succ, List.getElem_toArray, List.getElem_cons_zero, List.getElem_cons_succ]
          refine RG.RunsIf.weak (by rfl) (by rfl) (fun Z hT => exec_load_mid 34 _ (by rfl) (B) 8 (by rfl) (ms.map (Value.int .u32)) _ (HSC.out Z B hT.1).2.1 Tryd.underlying34 rfl I16.out) ?_
          simp only [Act.put, List.setIfInBounds_toArray, List.set_cons_zero, List.set_cons_succ, List.getElem_toArray, List.getElem_cons_zero, List.getElem_cons_succ]
          refine RG.RunsIf.weak (v := ?_) (by rfl) (by rfl) (fun Z hT => ?_) ?_
          rotate_left
          · obtain ⟨_, _, c0, c1, c2⟩ := HSC.out Z B hT.1
            go_simp
            rfl
          simp only [Act.put, List.setIfInBounds_toArray, List.set_cons_zero, List.set_cons_succ, List.getElem_toArray, List.getElem_cons_zero, List.getElem_cons_succ]
          refine RG.RunsIf.weak (v := ?_) (by rfl) (by rfl) (fun Z hT => ?_) ?_
          rotate_left
          · obtain ⟨_, _, c0, c1, c2⟩ := HSC.out Z B hT.1
            go_simp
            rfl
          simp only [Act.put, List.setIfInBounds_toArray, List.set_cons_zero, List.set_cons_succ, List.getElem_toArray, List.getElem_cons_zero, List.getElem_cons_succ]
          refine RG.RunsIf.weak (v := ?_) (by rfl) (by rfl) (fun Z hT => ?_) ?_
          rotate_left
          · obtain ⟨_, _, c0, c1, c2⟩ := HSC.out Z B hT.1
            go_simp
            rfl
          simp only [Act.put, List.setIfInBounds_toArray, List.set_cons_zero, List.set_cons_succ, List.getElem_toArray, List.getElem_cons_zero, List.getElem_cons_succ]
          refine RG.RunsIf.weak (v := ?_) (by rfl) (by rfl) (fun Z hT => ?_) ?_
          rotate_left
          · obtain ⟨_, _, c0, c1, c2⟩ := HSC.out Z B hT.1
            go_simp
            rfl
          simp only [Act.put, List.setIfInBounds_toArray, List.set_cons_zero, List.set_cons_succ, List.getElem_toArray, List.getElem_cons_zero, List.getElem_cons_succ]
          refine RG.RunsIf.weak (v := ?_) (by rfl) (by rfl) (fun Z hT => ?_) ?_
          rotate_left
          · obtain ⟨_, _, c0, c1, c2⟩ := HSC.out Z B hT.1
            go_simp
            rfl
          simp only [Act.put, List.setIfInBounds_toArray, List.set_cons_zero, List.set_cons_succ, List.getElem_toArray, List.getElem_cons_zero, List.getElem_cons_succ]
          refine RG.RunsIf.weak (v := ?_) (by rfl) (by rfl) (fun Z hT => ?_) ?_
          rotate_left
          · obtain ⟨_, _, c0, c1, c2⟩ := HSC.out Z B hT.1
            go_simp
            rfl
          simp only [Act.put, List.setIfInBounds_toArray, List.set_cons_zero, List.set_cons_succ, List.getElem_toArray, List.getElem_cons_zero, List.getElem_cons_succ]
          refine RG.RunsIf.weak (v := ?_) (by rfl) (by rfl) (fun Z hT => ?_) ?_
          rotate_left
          · go_simp
            rfl
          simp only [Act.put, List.setIfInBounds_toArray, List.set_cons_zero, List.set_cons_succ, List.getElem_toArray, List.getElem_cons_zero, List.getElem_cons_succ]
          refine RG.RunsIf.weak (by rfl) (by rfl) (fun Z hT => exec_load_mid 23 _ (by rfl) (B) 0 (by rfl) (hs.map (Value.int .u32)) _ (HSC.out Z B hT.1).1 Tryd.underlying23 rfl I8.out) ?_
          simp only [Act.put, List.setIfInBounds_toArray, List.set_cons_zero, List.set_cons_succ, List.getElem_toArray, List.getElem_cons_zero, List.getElem_cons_succ]
          refine RG.RunsIf.weak (v := ?_) (by rfl) (by rfl) (fun Z hT => ?_) ?_
          rotate_left
          · go_simp
            rfl
          simp only [Act.put, List.setIfInBounds_toArray, List.set_cons_zero, List.set_cons_succ, List.getElem_toArray, List.getElem_cons_zero, List.getElem_cons_succ]
          refine RG.RunsIf.weak (v := .pointer (some ⟨g1, 10 * 16, none⟩)) (by rfl) (by rfl) (fun Z hT => exec_indexAt 44 _ _ (by rfl) g1 11 cap1 (10) 16 34 (by rfl) (by rfl) (by decide) Tryd.underlying44 sizeS) ?_
          simp only [Act.put, List.setIfInBounds_toArray, List.set_cons_zero, List.set_cons_succ, List.getElem_toArray, List.getElem_cons_zero, List.getElem_cons_succ]
          refine RG.RunsIf.weak (by rfl) (by rfl) (fun Z hT => exec_load_mid 34 _ (by rfl) (g1) (10 * 16) (by rfl) (X (roundsL (beginL hs n la no) ms (10))) _ (hT.2.1 (10) (by decide)) Tryd.underlying34 rfl (IXA.out (10))) ?_
          simp only [Act.put, List.setIfInBounds_toArray, List.set_cons_zero, List.set_cons_succ, List.getElem_toArray, List.getElem_cons_zero, List.getElem_cons_succ]
          exact RG.RunsIf.nil
        refine RG.wpL_step (i := 10) (by kernel_rfl) (by rfl) (by rfl) (fun KX hK => ?_)
        have HK := TW.hide hK
        clear hK
        go_simp
        refine (P5.out Yvy (hB ▸ HTvy.out.2.2.2)).mono ?_
        rintro e W4 ⟨rfl, hb4⟩
        have H10 : Hid (W4.heap[B]? = some (.cells (runC hs ms n la no) 43 (0, 0)) ∧ (∀ j, j < 11 → W4.rangeAt g1 (j * 16) (X (roundsL (beginL hs n la no) ms j))) ∧ g1 < W4.heap.size ∧ Below B w W4) := ⟨blk_keep HTvy.out.1 hb4, fun j hj => range_below (HTvy.out.2.1 j hj) HTvy.out.2.2.1 hb4, Nat.lt_of_lt_of_le HTvy.out.2.2.1 hb4.size, below_row HTvy.out.2.2.2 hb4 (by have := blk_lt HTvy.out.1; omega)⟩
        refine HK.out _ _ H10.out (fun _ => trivial) ?_
        clear HK KX hb4
        refine RG.wpL_step (i := 16) (by kernel_rfl) (by rfl) (by rfl) (fun KX hK => ?_)
        have HK := TW.hide hK
        clear hK
        go_simp
        refine (P6.out W4).mono ?_
        rintro e W5 ⟨rfl, hb5⟩
        have H11 : Hid (W5.heap[B]? = some (.cells (runC hs ms n la no) 43 (0, 0)) ∧ (∀ j, j < 11 → W5.rangeAt g1 (j * 16) (X (roundsL (beginL hs n la no) ms j))) ∧ g1 < W5.heap.size ∧ Below B w W5) := ⟨blk_keep H10.out.1 hb5, fun j hj => range_below (H10.out.2.1 j hj) H10.out.2.2.1 hb5, Nat.lt_of_lt_of_le H10.out.2.2.1 hb5.size, below_row H10.out.2.2.2 hb5 (by have := blk_lt H10.out.1; omega)⟩
        refine HK.out _ _ H11.out (fun _ => trivial) ?_
        clear HK KX hb5
        try simp only [Act.put, List.setIfInBounds_toArray, List.set_cons_zero, List.set_cons_succ, List.getElem_toArray, List.getElem_cons_zero, List.getElem_cons_succ]
        refine RG.wpL_take (fuel := 1) (a' := ?Azy) [17] (by kernel_rfl) (by kernel_rfl) (fun _ _ _ _ _ h => h) H11.out (fun _ => trivial) ?rzy ?_
        case rzy =>
          refine RG.RunsIf.weak (v := ?_) (by rfl) (by rfl) (fun Z hT => ?_) ?_
          rotate_left
          · have q := Q4.out Z
            go_simp
            rfl
          simp only [Act.put, List.setIfInBounds_toArray, List.set_cons_zero, List.set_cons_succ, List.getElem_toArray, List.getElem_cons_zero, List.getElem_cons_succ]
          exact RG.RunsIf.nil
        refine RG.wpL_step (i := 18) (by kernel_rfl) (by rfl) (by rfl) (fun KX hK => ?_)
        have HK := TW.hide hK
        clear hK
        go_simp
        refine HK.out _ _ H11.out (fun _ => trivial) ?_
        clear HK KX
        refine RG.wpL_done (by kernel_rfl) ?_ _
        refine NoPanic.normal ?_
        go_wp2
        go_ret
        exact ⟨rfl, H11.out.2.2.2⟩
end MX
end Go.Proofs.YtecepllidmkmhabDoor
