/-
  What the law MixsStates does: the eleven states of the program are the document's, told anew each time.
-/
import Derived.Test.YtecepllidmkmhaaDoorRStatesB
namespace Go.Proofs.YtecepllidmkmhaaDoor
open Go.RowKit
set_option linter.unusedVariables false
set_option linter.unusedSimpArgs false
namespace MX
open Turn
attribute [local go_sem ↓] Go.wp_at_zero Go.wp_at_succ
set_option maxRecDepth 100000 in
set_option maxHeartbeats 1000000 in
theorem statesWalk (hs ms : List Int) (n : Int) (la no : Bool) (w : World) (to : Tab w 1 .u8 ordL) (ti : Tab w 0 .u32 ivL) (hl : hs.length = 8) (hm : ms.length = 16) (hw : Ws hs) (hM : Ws ms) (wn : 0 ≤ n) (wn' : n < 18446744073709551616) :
    Calls Tryd.prog 6 #[.agg (runC hs ms n la no)] w fun e w' => e = .returned (.bool true) ∧ Below w.heap.size w w' := by
  have i8 : (Tryd.prog.info? 24).map (·.size) = some (hs.map (Value.int .u32)).length := by rw [List.length_map, hl]; kernel_rfl
  have i16 : (Tryd.prog.info? 26).map (·.size) = some (ms.map (Value.int .u32)).length := by rw [List.length_map, hm]; kernel_rfl
  have hvl := beginL_length hs n la no hl
  have hsc := fun Z B => run_cell hs ms n la no hl hm Z B
  have p1 := fun Y (hb : Below w.heap.size w Y) => states hs ms n la no Y (ti.below hb) (to.below hb) hl hm hw hM wn wn'
  have p2 := fun Y => rstates hs ms n la no Y hl hm hw hM wn wn'
  have ixs : ∀ j, (Tryd.prog.info? 26).map (·.size) = some (X (roundsL (beginL hs n la no) ms j)).length := fun j => by rw [X_length, roundsL_length, hvl]; kernel_rfl
  have q1 : ∀ Z (j : Nat), (Op.equalIn 10000 26 (.agg (X (roundsL (beginL hs n la no) ms j)).toArray) (.agg (X (roundsL (beginL hs n la no) ms j)).toArray)).run Tryd.prog Z = .ok true Z := fun Z j => by
    have h := eq16 Z (roundsL (beginL hs n la no) ms j) (roundsL (beginL hs n la no) ms j) (by rw [roundsL_length, hvl]) (by rw [roundsL_length, hvl])
    simp only [decide_true] at h
    exact h
  clear to ti hl hm hw hM wn wn'
  have I8 := TW.hide i8
  have I16 := TW.hide i16
  have HVL := TW.hide hvl
  have HSC := TW.hide hsc
  have P1 := TW.hide p1
  have P2 := TW.hide p2
  have IXS := TW.hide ixs
  have Q1 := TW.hide q1
  clear i8 i16 hvl hsc p1 p2 ixs q1
  have hb := ((Below.refl w.heap.size w).alloc (Nat.le_refl _) (.cells (runC hs ms n la no) 48))
  have n0 := (heap_new w (.cells (runC hs ms n la no) 48))
  go_enter Tryd.func6, Tryd.ntmps6
  refine wp_seq_k fun K hK => ?_
  have HK := TW.hide hK
  clear hK
  go_wp2
  refine HK.out _ _ ?_
  clear HK K
  change Code.wp _ _ _ _ (w.alloc (.cells (runC hs ms n la no) 48))
  generalize hWW : w.alloc (.cells (runC hs ms n la no) 48) = W at hb n0 ⊢
  have hW : W.heap.size = w.heap.size + 1 := by rw [← hWW]; simp
  clear hWW
  generalize hB : w.heap.size = B at *
  have N0 := TW.hide n0
  have NB := TW.hide hb
  clear n0 hb
  clear hW
  refine wp_seq_k fun KK hK => ?_
  have HK := TW.hide hK
  clear hK
  obtain ⟨_, _, c0, c1, c2⟩ := HSC.out _ _ N0.out
  go_wp2_with (first | (refine wpList_load_mid (by rfl) 24 _ (by rfl) (B) 0 (by rfl) (hs.map (Value.int .u32)) _ (HSC.out _ _ N0.out).1 Tryd.underlying24 rfl I8.out ?_) | (refine wpList_load_mid (by rfl) 26 _ (by rfl) (B) 8 (by rfl) (ms.map (Value.int .u32)) _ (HSC.out _ _ N0.out).2.1 Tryd.underlying26 rfl I16.out ?_))
  clear c0 c1 c2
  refine (P1.out _ NB.out).mono ?_
  rintro e w1 ⟨v1, rfl, own1, hb1⟩
  obtain ⟨g1, cap1, rfl, hg1, hl1, hr1⟩ := own_state own1 HVL.out
  have R1 : Hid (∀ j, j < 11 → w1.rangeAt g1 (j * 16) (X (roundsL (beginL hs n la no) ms j))) := hr1
  have O1 := TW.hide own1
  have N0' := TW.hide (blk_keep N0.out hb1)
  have NB' : Hid (Below B w w1) := below_row NB.out hb1 (by have := blk_lt N0.out; omega)
  have hB1 : B < g1 := by have := blk_lt N0.out; omega
  clear N0 NB
  have N0 := N0'
  have NB := NB'
  clear N0' NB' R1
  have T1 := TW.hide (own_there O1.out)
  clear O1
  clear own1 hr1 hb1
  go_wp2
  refine HK.out _ _ ?_
  clear HK KK
  refine wp_seq_k fun KK hK => ?_
  have HK := TW.hide hK
  clear hK
  obtain ⟨_, _, c0, c1, c2⟩ := HSC.out _ _ N0.out
  go_wp2_with (first | (refine wpList_load_mid (by rfl) 24 _ (by rfl) (B) 0 (by rfl) (hs.map (Value.int .u32)) _ (HSC.out _ _ N0.out).1 Tryd.underlying24 rfl I8.out ?_) | (refine wpList_load_mid (by rfl) 26 _ (by rfl) (B) 8 (by rfl) (ms.map (Value.int .u32)) _ (HSC.out _ _ N0.out).2.1 Tryd.underlying26 rfl I16.out ?_))
  clear c0 c1 c2
  refine (P1.out _ NB.out).mono ?_
  rintro e w2 ⟨v2, rfl, own2, hb2⟩
  obtain ⟨g2, cap2, rfl, hg2, hl2, hr2⟩ := own_state own2 HVL.out
  have R2 : Hid (∀ j, j < 11 → w2.rangeAt g2 (j * 16) (X (roundsL (beginL hs n la no) ms j))) := hr2
  have O2 := TW.hide own2
  have N0' := TW.hide (blk_keep N0.out hb2)
  have NB' : Hid (Below B w w2) := below_row NB.out hb2 (by have := blk_lt N0.out; omega)
  have T1' := TW.hide (there_below T1.out hl1 hb2)
  have hg12 : g1 < g2 := by omega
  clear N0 NB T1
  have N0 := N0'
  have NB := NB'
  have T1 := T1'
  clear N0' NB' T1' O2
  clear own2 hr2 hb2
  go_wp2
  refine HK.out _ _ ?_
  clear HK KK
  go_wp2
  go_loopw [5] (fun i wr => ∃ k : Nat, k ≤ 11 ∧ i = .int .i64 k ∧ wr.heap[B]? = some (.cells (runC hs ms n la no) 48 (0, 0)) ∧ wr.there g1 0 176 ∧ (∀ j, j < 11 → wr.rangeAt g2 (j * 16) (X (roundsL (beginL hs n la no) ms j))) ∧ g2 < wr.heap.size ∧ Below B w wr) (fun i _ => 11 - (intOf i).toNat)
  case atStart => exact ⟨0, Nat.zero_le _, rfl, N0.out, T1.out, R2.out, hl2, NB.out⟩
  case round =>
    rename_i Q1' K1 a1
    obtain ⟨k, hk, rfl, n0, t1, r2, hlw, hb⟩ := hrel
    clear N0 T1 R2 NB hl2
    by_cases hlt : k < 11
    · have hth : wr.there g1 (k * 16) (K .u32 [7, 0, 0, 0, 0, 0, 0, 0, 0, 0, 0, 0, 0, 0, 0, 0]).size := by rw [K_size]; exact there_sub (o := k * 16) (m := 16) t1 (by omega)
      have HTH := TW.hide hth
      have h7 : (Tryd.prog.info? 26).map (·.size) = some (K .u32 [7, 0, 0, 0, 0, 0, 0, 0, 0, 0, 0, 0, 0, 0, 0, 0]).size := by kernel_rfl
      have H7 := TW.hide h7
      have F0 : Hid ((wr.setCells g1 (k * 16) (K .u32 [7, 0, 0, 0, 0, 0, 0, 0, 0, 0, 0, 0, 0, 0, 0, 0]).toList).heap[B]? = some (.cells (runC hs ms n la no) 48 (0, 0))) := by
        show _ = _
        rw [heap_setCells_other (by omega)]; exact n0
      have F1 := TW.hide (World.there_setCells t1 g1 (k * 16) (K .u32 [7, 0, 0, 0, 0, 0, 0, 0, 0, 0, 0, 0, 0, 0, 0, 0]).toList)
      have F2 : Hid (∀ j, j < 11 → (wr.setCells g1 (k * 16) (K .u32 [7, 0, 0, 0, 0, 0, 0, 0, 0, 0, 0, 0, 0, 0, 0, 0]).toList).rangeAt g2 (j * 16) (X (roundsL (beginL hs n la no) ms j))) := fun j hj => World.rangeAt_setCells_apart (r2 j hj) _ _ _ (.inl (by omega))
      have F3 := TW.hide (below_setCells (g := g1) (by omega) (K .u32 [7, 0, 0, 0, 0, 0, 0, 0, 0, 0, 0, 0, 0, 0, 0, 0]).toList (k * 16) hb)
      have hsz : (wr.setCells g1 (k * 16) (K .u32 [7, 0, 0, 0, 0, 0, 0, 0, 0, 0, 0, 0, 0, 0, 0, 0]).toList).heap.size = wr.heap.size := size_setCells _ _ _ _
      clear hth h7 n0 t1 r2 hb
      have k1 : (k : Int) < 11 := by omega
      go_wp2_with (first | (refine wpList_val (.pointer (some ⟨g1, k * 16, none⟩)) (by rfl) (exec_indexAt 53 _ _ (by rfl) g1 11 cap1 k 16 26 (by rfl) (by rfl) hlt Tryd.underlying53 sizeS) ?_; simp only [Act.put, List.setIfInBounds_toArray, List.set_cons_zero, List.set_cons_succ, List.getElem_toArray, List.getElem_cons_zero, List.getElem_cons_succ]) | (refine wpList_buildTo (by rfl) 26 _ (by rfl) (.agg (K .u32 [7, 0, 0, 0, 0, 0, 0, 0, 0, 0, 0, 0, 0, 0, 0, 0])) (by kernel_rfl) ?_; simp only [Act.put, List.setIfInBounds_toArray, List.set_cons_zero, List.set_cons_succ, List.getElem_toArray, List.getElem_cons_zero, List.getElem_cons_succ]) | (refine wpList_store_mid (by rfl) 26 _ _ (by rfl) g1 (k * 16) (K .u32 [7, 0, 0, 0, 0, 0, 0, 0, 0, 0, 0, 0, 0, 0, 0, 0]) (by rfl) (by rfl) HTH.out H7.out (K_one _ _) ?_; generalize wr.setCells g1 (k * 16) (K .u32 [7, 0, 0, 0, 0, 0, 0, 0, 0, 0, 0, 0, 0, 0, 0, 0]).toList = Y at *))
      go_roundw
      case rel => exact ⟨k + 1, by omega, by go_num, F0.out, F1.out, F2.out, by rw [hsz]; exact hlw, F3.out⟩
      case measure => simp [intOf]; omega
    · obtain rfl : k = 11 := by omega
      have N0 := TW.hide n0
      have R2 : Hid (∀ j, j < 11 → wr.rangeAt g2 (j * 16) (X (roundsL (beginL hs n la no) ms j))) := r2
      have NB := TW.hide hb
      clear n0 t1 r2 hb
      have HA := TW.hide a1
      clear a1
      go_wp2
      refine HA.out _ _ ?_
      clear HA
      refine wp_seq_k fun KK hK => ?_
      have HK := TW.hide hK
      clear hK
      obtain ⟨_, _, c0, c1, c2⟩ := HSC.out _ _ N0.out
      go_wp2_with (first | (refine wpList_load_mid (by rfl) 24 _ (by rfl) (B) 0 (by rfl) (hs.map (Value.int .u32)) _ (HSC.out _ _ N0.out).1 Tryd.underlying24 rfl I8.out ?_) | (refine wpList_load_mid (by rfl) 26 _ (by rfl) (B) 8 (by rfl) (ms.map (Value.int .u32)) _ (HSC.out _ _ N0.out).2.1 Tryd.underlying26 rfl I16.out ?_))
      clear c0 c1 c2
      refine (P1.out _ NB.out).mono ?_
      rintro e w3 ⟨v3, rfl, own3, hb3⟩
      obtain ⟨g3, cap3, rfl, hg3, hl3, hr3⟩ := own_state own3 HVL.out
      have R3 : Hid (∀ j, j < 11 → w3.rangeAt g3 (j * 16) (X (roundsL (beginL hs n la no) ms j))) := hr3
      have O3 := TW.hide own3
      have N0' := TW.hide (blk_keep N0.out hb3)
      have NB' : Hid (Below B w w3) := below_row NB.out hb3 (by have := blk_lt N0.out; omega)
      have R2' : Hid (∀ j, j < 11 → w3.rangeAt g2 (j * 16) (X (roundsL (beginL hs n la no) ms j))) := fun j hj => range_below (R2.out j hj) hlw hb3
      have hl23 : g2 < w3.heap.size := Nat.lt_of_lt_of_le hlw hb3.size
      clear N0 NB R2 O3
      have N0 := N0'
      have NB := NB'
      have R2 := R2'
      clear N0' NB' R2'
      clear own3 hr3 hb3
      go_wp2
      refine HK.out _ _ ?_
      clear HK KK
      refine wp_seq_k fun KK hK => ?_
      have HK := TW.hide hK
      clear hK
      obtain ⟨_, _, c0, c1, c2⟩ := HSC.out _ _ N0.out
      go_wp2_with (first | (refine wpList_load_mid (by rfl) 24 _ (by rfl) (B) 0 (by rfl) (hs.map (Value.int .u32)) _ (HSC.out _ _ N0.out).1 Tryd.underlying24 rfl I8.out ?_) | (refine wpList_load_mid (by rfl) 26 _ (by rfl) (B) 8 (by rfl) (ms.map (Value.int .u32)) _ (HSC.out _ _ N0.out).2.1 Tryd.underlying26 rfl I16.out ?_))
      clear c0 c1 c2
      refine (P2.out _).mono ?_
      rintro e w4 ⟨v4, rfl, own4, hb4⟩
      obtain ⟨g4, cap4, rfl, hg4, hl4, hr4⟩ := own_state own4 HVL.out
      have R4 : Hid (∀ j, j < 11 → w4.rangeAt g4 (j * 16) (X (roundsL (beginL hs n la no) ms j))) := hr4
      have O4 := TW.hide own4
      have NB' : Hid (Below B w w4) := below_row NB.out hb4 (by have := blk_lt N0.out; omega)
      have R2' : Hid (∀ j, j < 11 → w4.rangeAt g2 (j * 16) (X (roundsL (beginL hs n la no) ms j))) := fun j hj => range_below (R2.out j hj) hl23 hb4
      have R3' : Hid (∀ j, j < 11 → w4.rangeAt g3 (j * 16) (X (roundsL (beginL hs n la no) ms j))) := fun j hj => range_below (R3.out j hj) hl3 hb4
      clear N0 NB R2 R3 O4
      have NB := NB'
      have R2 := R2'
      have R3 := R3'
      clear NB' R2' R3'
      clear own4 hr4 hb4
      go_wp2
      refine HK.out _ _ ?_
      clear HK KK
      go_wp2
      go_loopw [8] (fun i wr => ∃ k : Nat, k ≤ 11 ∧ i = .int .i64 k ∧ (∀ j, j < 11 → wr.rangeAt g2 (j * 16) (X (roundsL (beginL hs n la no) ms j))) ∧ (∀ j, j < 11 → wr.rangeAt g3 (j * 16) (X (roundsL (beginL hs n la no) ms j))) ∧ (∀ j, j < 11 → wr.rangeAt g4 (j * 16) (X (roundsL (beginL hs n la no) ms j))) ∧ Below B w wr) (fun i _ => 11 - (intOf i).toNat)
      case atStart => exact ⟨0, Nat.zero_le _, rfl, R2.out, R3.out, R4.out, NB.out⟩
      case round =>
        obtain ⟨k, hk, rfl, ht⟩ := hrel
        clear R2 R3 R4 NB
        by_cases hlt : k < 11
        · have HT : Hid ((∀ j, j < 11 → wr.rangeAt g2 (j * 16) (X (roundsL (beginL hs n la no) ms j))) ∧ (∀ j, j < 11 → wr.rangeAt g3 (j * 16) (X (roundsL (beginL hs n la no) ms j))) ∧ (∀ j, j < 11 → wr.rangeAt g4 (j * 16) (X (roundsL (beginL hs n la no) ms j))) ∧ Below B w wr) := ht
          clear ht
          have k1 : (k : Int) < 11 := by omega
          go_wp2
          refine wp_region_noPanic ?_
          refine RG.wp_region_L (fun Z => True) (fun Z => (∀ j, j < 11 → Z.rangeAt g2 (j * 16) (X (roundsL (beginL hs n la no) ms j))) ∧ (∀ j, j < 11 → Z.rangeAt g3 (j * 16) (X (roundsL (beginL hs n la no) ms j))) ∧ (∀ j, j < 11 → Z.rangeAt g4 (j * 16) (X (roundsL (beginL hs n la no) ms j))) ∧ Below B w Z) [] (by kernel_rfl) ?_
          refine RG.wpL_any fun Ya hY => ?_
          have HTa : Hid ((∀ j, j < 11 → Ya.rangeAt g2 (j * 16) (X (roundsL (beginL hs n la no) ms j))) ∧ (∀ j, j < 11 → Ya.rangeAt g3 (j * 16) (X (roundsL (beginL hs n la no) ms j))) ∧ (∀ j, j < 11 → Ya.rangeAt g4 (j * 16) (X (roundsL (beginL hs n la no) ms j))) ∧ Below B w Ya) := by rw [hY]; exact ⟨HT.out.1, HT.out.2.1, HT.out.2.2.1, below_drewN HT.out.2.2.2 1⟩
          clear hY
          refine RG.wpL_take (fuel := 0) (a' := ?Aa) [0, 1, 2, 3, 4, 5, 6, 7, 8, 9, 10, 11, 12, 13, 14, 15, 16, 17, 18, 19] (by kernel_rfl) (by kernel_rfl) (fun _ _ _ _ _ h => h) HTa.out (fun _ => trivial) ?ra ?_
          case ra =>
            refine RG.RunsIf.weak (v := ?_) (by rfl) (by rfl) (fun Z hT => ?_) ?_
            rotate_left
            · go_simp
              rfl
            simp only [Act.put, List.setIfInBounds_toArray, List.set_cons_zero, List.set_cons_succ, List.getElem_toArray, List.getElem_cons_zero, List.getElem_cons_succ]
            refine RG.RunsIf.weak (v := ?_) (by rfl) (by rfl) (fun Z hT => ?_) ?_
            rotate_left
            · go_simp
              rfl
            simp only [Act.put, List.setIfInBounds_toArray, List.set_cons_zero, List.set_cons_succ, List.getElem_toArray, List.getElem_cons_zero, List.getElem_cons_succ]
            refine RG.RunsIf.weak (v := .pointer (some ⟨g2, k * 16, none⟩)) (by rfl) (by rfl) (fun Z hT => exec_indexAt 53 _ _ (by rfl) g2 11 cap2 k 16 26 (by rfl) (by rfl) hlt Tryd.underlying53 sizeS) ?_
            simp only [Act.put, List.setIfInBounds_toArray, List.set_cons_zero, List.set_cons_succ, List.getElem_toArray, List.getElem_cons_zero, List.getElem_cons_succ]
            refine RG.RunsIf.weak (by rfl) (by rfl) (fun Z hT => exec_load_mid 26 _ (by rfl) (g2) (k * 16) (by rfl) (X (roundsL (beginL hs n la no) ms k)) _ (hT.1 k hlt) Tryd.underlying26 rfl (IXS.out k)) ?_
            simp only [Act.put, List.setIfInBounds_toArray, List.set_cons_zero, List.set_cons_succ, List.getElem_toArray, List.getElem_cons_zero, List.getElem_cons_succ]
            refine RG.RunsIf.weak (v := ?_) (by rfl) (by rfl) (fun Z hT => ?_) ?_
            rotate_left
            · go_simp
              rfl
            simp only [Act.put, List.setIfInBounds_toArray, List.set_cons_zero, List.set_cons_succ, List.getElem_toArray, List.getElem_cons_zero, List.getElem_cons_succ]
            refine RG.RunsIf.weak (v := ?_) (by rfl) (by rfl) (fun Z hT => ?_) ?_
            rotate_left
            · go_simp
              rfl
            simp only [Act.put, List.setIfInBounds_toArray, List.set_cons_zero, List.set_cons_succ, List.getElem_toArray, List.getElem_cons_zero, List.getElem_cons_succ]
            refine RG.RunsIf.weak (v := .pointer (some ⟨g4, k * 16, none⟩)) (by rfl) (by rfl) (fun Z hT => exec_indexAt 53 _ _ (by rfl) g4 11 cap4 k 16 26 (by rfl) (by rfl) hlt Tryd.underlying53 sizeS) ?_
            simp only [Act.put, List.setIfInBounds_toArray, List.set_cons_zero, List.set_cons_succ, List.getElem_toArray, List.getElem_cons_zero, List.getElem_cons_succ]
            refine RG.RunsIf.weak (by rfl) (by rfl) (fun Z hT => exec_load_mid 26 _ (by rfl) (g4) (k * 16) (by rfl) (X (roundsL (beginL hs n la no) ms k)) _ (hT.2.2.1 k hlt) Tryd.underlying26 rfl (IXS.out k)) ?_
            simp only [Act.put, List.setIfInBounds_toArray, List.set_cons_zero, List.set_cons_succ, List.getElem_toArray, List.getElem_cons_zero, List.getElem_cons_succ]
            refine RG.RunsIf.weak (v := ?_) (by rfl) (by rfl) (fun Z hT => ?_) ?_
            rotate_left
            · have q := Q1.out Z k
              go_simp
              rfl
            simp only [Act.put, List.setIfInBounds_toArray, List.set_cons_zero, List.set_cons_succ, List.getElem_toArray, List.getElem_cons_zero, List.getElem_cons_succ]
            refine RG.RunsIf.weak (v := ?_) (by rfl) (by rfl) (fun Z hT => ?_) ?_
            rotate_left
            · go_simp
              rfl
            simp only [Act.put, List.setIfInBounds_toArray, List.set_cons_zero, List.set_cons_succ, List.getElem_toArray, List.getElem_cons_zero, List.getElem_cons_succ]
            refine RG.RunsIf.weak (v := ?_) (by rfl) (by rfl) (fun Z hT => ?_) ?_
            rotate_left
            · go_simp
              rfl
            simp only [Act.put, List.setIfInBounds_toArray, List.set_cons_zero, List.set_cons_succ, List.getElem_toArray, List.getElem_cons_zero, List.getElem_cons_succ]
            refine RG.RunsIf.weak (v := ?_) (by rfl) (by rfl) (fun Z hT => ?_) ?_
            rotate_left
            · go_simp
              rfl
            simp only [Act.put, List.setIfInBounds_toArray, List.set_cons_zero, List.set_cons_succ, List.getElem_toArray, List.getElem_cons_zero, List.getElem_cons_succ]
            refine RG.RunsIf.weak (v := .pointer (some ⟨g3, k * 16, none⟩)) (by rfl) (by rfl) (fun Z hT => exec_indexAt 53 _ _ (by rfl) g3 11 cap3 k 16 26 (by rfl) (by rfl) hlt Tryd.underlying53 sizeS) ?_
            simp only [Act.put, List.setIfInBounds_toArray, List.set_cons_zero, List.set_cons_succ, List.getElem_toArray, List.getElem_cons_zero, List.getElem_cons_succ]
            refine RG.RunsIf.weak (by rfl) (by rfl) (fun Z hT => exec_load_mid 26 _ (by rfl) (g3) (k * 16) (by rfl) (X (roundsL (beginL hs n la no) ms k)) _ (hT.2.1 k hlt) Tryd.underlying26 rfl (IXS.out k)) ?_
            simp only [Act.put, List.setIfInBounds_toArray, List.set_cons_zero, List.set_cons_succ, List.getElem_toArray, List.getElem_cons_zero, List.getElem_cons_succ]
            refine RG.RunsIf.weak (v := ?_) (by rfl) (by rfl) (fun Z hT => ?_) ?_
            rotate_left
            · go_simp
              rfl
            simp only [Act.put, List.setIfInBounds_toArray, List.set_cons_zero, List.set_cons_succ, List.getElem_toArray, List.getElem_cons_zero, List.getElem_cons_succ]
            refine RG.RunsIf.weak (v := ?_) (by rfl) (by rfl) (fun Z hT => ?_) ?_
            rotate_left
            · go_simp
              rfl
            simp only [Act.put, List.setIfInBounds_toArray, List.set_cons_zero, List.set_cons_succ, List.getElem_toArray, List.getElem_cons_zero, List.getElem_cons_succ]
            refine RG.RunsIf.weak (v := .pointer (some ⟨g4, k * 16, none⟩)) (by rfl) (by rfl) (fun Z hT => exec_indexAt 53 _ _ (by rfl) g4 11 cap4 k 16 26 (by rfl) (by rfl) hlt Tryd.underlying53 sizeS) ?_
            simp only [Act.put, List.setIfInBounds_toArray, List.set_cons_zero, List.set_cons_succ, List.getElem_toArray, List.getElem_cons_zero, List.getElem_cons_succ]
            refine RG.RunsIf.weak (by rfl) (by rfl) (fun Z hT => exec_load_mid 26 _ (by rfl) (g4) (k * 16) (by rfl) (X (roundsL (beginL hs n la no) ms k)) _ (hT.2.2.1 k hlt) Tryd.underlying26 rfl (IXS.out k)) ?_
            simp only [Act.put, List.setIfInBounds_toArray, List.set_cons_zero, List.set_cons_succ, List.getElem_toArray, List.getElem_cons_zero, List.getElem_cons_succ]
            refine RG.RunsIf.weak (v := ?_) (by rfl) (by rfl) (fun Z hT => ?_) ?_
            rotate_left
            · have q := Q1.out Z k
              go_simp
              rfl
            simp only [Act.put, List.setIfInBounds_toArray, List.set_cons_zero, List.set_cons_succ, List.getElem_toArray, List.getElem_cons_zero, List.getElem_cons_succ]
            refine RG.RunsIf.weak (v := ?_) (by rfl) (by rfl) (fun Z hT => ?_) ?_
            rotate_left
            · go_simp
              rfl
            simp only [Act.put, List.setIfInBounds_toArray, List.set_cons_zero, List.set_cons_succ, List.getElem_toArray, List.getElem_cons_zero, List.getElem_cons_succ]
            exact RG.RunsIf.nil
          refine RG.wpL_done (by kernel_rfl) ?_ _
          refine NoPanic.normal ?_
          go_wp2
          go_roundw
          case rel => exact ⟨k + 1, by omega, by go_num, HTa.out⟩
          case measure => simp [intOf]; omega
        · go_wp2
          go_ret
          exact ⟨rfl, ht.2.2.2⟩
end MX
end Go.Proofs.YtecepllidmkmhaaDoor
