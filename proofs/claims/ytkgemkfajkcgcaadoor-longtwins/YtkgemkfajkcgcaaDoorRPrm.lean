/-
  The document's Perm.
-/
import Derived.Test.YtkgemkfajkcgcaaDoorPermL
import Derived.Test.YtkgemkfajkcgcaaDoorEql
import Derived.Test.YtkgemkfajkcgcaaDoorPair
import Derived.Great.Walk
namespace Go.Proofs.YtkgemkfajkcgcaaDoor
open Go.RowKit
set_option linter.unusedVariables false
set_option linter.unusedSimpArgs false
set_option maxRecDepth 100000
namespace LW
open Turn
attribute [local go_sem ↓] Go.wp_at_zero Go.wp_at_succ
/-- The first of four words stand at their places. -/
def stN (us PS rs : List Int) : Nat → List Int
  | 0 => us
  | j + 1 => (stN us PS rs j).set (PS.getD j 0).toNat (rs.getD j 0)
theorem stN_length (us PS rs : List Int) (j : Nat) : (stN us PS rs j).length = us.length := by
  induction j with
  | zero => rfl
  | succ j ih => rw [stN, List.length_set, ih]
theorem stN_put4 (us : List Int) (p0 p1 p2 p3 : Nat) (a b c d : Int) : stN us [(p0 : Int), (p1 : Int), (p2 : Int), (p3 : Int)] [a, b, c, d] 4 = put4 us p0 p1 p2 p3 (a, b, c, d) := rfl
set_option maxHeartbeats 2000000 in
theorem rplaces (i : Nat) (w : World) (hi : i < 8) : Calls Tryd.prog 24 #[.int .i64 i] w fun e w' => e = .returned (.agg (K .i64 ((plL.drop (i * 4)).take 4))) ∧ Below w.heap.size w w' := by
  have hi0 : (0 : Int) ≤ (i : Int) := by omega
  have hi1 : (i : Int) < 8 := by omega
  have hm : (i : Int) % 8 = (i : Int) := by omega
  go_enter Tryd.func24, Tryd.ntmps24
  refine wp_seq_k fun K hK => ?_
  have HK := TW.hide hK
  clear hK
  go_wp2
  refine HK.out _ _ ?_
  clear HK K
  have n0 := heap_new w (.cells (K .i64 [0, 0, 0, 0]) 46)
  have hb := (Below.refl w.heap.size w).alloc (Nat.le_refl _) (.cells (K .i64 [0, 0, 0, 0]) 46)
  have hsz : (w.alloc (.cells (K .i64 [0, 0, 0, 0]) 46)).heap.size = w.heap.size + 1 := by simp
  change Code.wp _ _ _ _ (w.alloc (.cells (K .i64 [0, 0, 0, 0]) 46))
  generalize w.alloc (.cells (K .i64 [0, 0, 0, 0]) 46) = W at hb n0 hsz ⊢
  refine wp_seq ?_
  refine wp_region_lit ?_
  refine Great.wpList_runTo rfl _ rfl (.agg (K .i64 [0, 4, 8, 12])) W (by kernel_rfl) ?_
  simp only [Act.put, List.setIfInBounds_toArray, List.set_cons_zero, List.set_cons_succ]
  refine Great.wpList_runTo rfl _ rfl (.agg (K .i64 [1, 5, 9, 13])) W (by kernel_rfl) ?_
  simp only [Act.put, List.setIfInBounds_toArray, List.set_cons_zero, List.set_cons_succ]
  refine Great.wpList_runTo rfl _ rfl (.agg (K .i64 [2, 6, 10, 14])) W (by kernel_rfl) ?_
  simp only [Act.put, List.setIfInBounds_toArray, List.set_cons_zero, List.set_cons_succ]
  refine Great.wpList_runTo rfl _ rfl (.agg (K .i64 [3, 7, 11, 15])) W (by kernel_rfl) ?_
  simp only [Act.put, List.setIfInBounds_toArray, List.set_cons_zero, List.set_cons_succ]
  refine Great.wpList_runTo rfl _ rfl (.agg (K .i64 [0, 5, 10, 15])) W (by kernel_rfl) ?_
  simp only [Act.put, List.setIfInBounds_toArray, List.set_cons_zero, List.set_cons_succ]
  refine Great.wpList_runTo rfl _ rfl (.agg (K .i64 [1, 6, 11, 12])) W (by kernel_rfl) ?_
  simp only [Act.put, List.setIfInBounds_toArray, List.set_cons_zero, List.set_cons_succ]
  refine Great.wpList_runTo rfl _ rfl (.agg (K .i64 [2, 7, 8, 13])) W (by kernel_rfl) ?_
  simp only [Act.put, List.setIfInBounds_toArray, List.set_cons_zero, List.set_cons_succ]
  refine Great.wpList_runTo rfl _ rfl (.agg (K .i64 [3, 4, 9, 14])) W (by kernel_rfl) ?_
  simp only [Act.put, List.setIfInBounds_toArray, List.set_cons_zero, List.set_cons_succ]
  refine Great.wpList_runTo rfl _ rfl (.agg (K .i64 plL)) W (by kernel_rfl) ?_
  simp only [Act.put, List.setIfInBounds_toArray, List.set_cons_zero, List.set_cons_succ]
  refine Great.wpList_runTo rfl _ rfl (.pointer (some ⟨W.heap.size, 0, none⟩)) (W.alloc (.cells (K .i64 (List.replicate 32 0)) 63)) (by kernel_rfl) ?_
  simp only [Act.put, List.setIfInBounds_toArray, List.set_cons_zero, List.set_cons_succ]
  refine wpList_store_row rfl 63 _ _ rfl W.heap.size (K .i64 plL) (by kernel_rfl) (by kernel_rfl) 63 _ (heap_new W _) (by kernel_rfl) (by kernel_rfl) (K_one _ _) ?_
  simp only [Act.put, List.setIfInBounds_toArray, List.set_cons_zero, List.set_cons_succ]
  refine wpList_nil ?_
  simp only [Exit.then]
  have n1 := setRow_heap _ _ _ (K .i64 plL) _ _ (heap_new W (.cells (K .i64 (List.replicate 32 0)) 63))
  have n2 : ((W.alloc (.cells (K .i64 (List.replicate 32 0)) 63)).setRow W.heap.size (K .i64 plL)).heap[w.heap.size]? = some (.cells (K .i64 [0, 0, 0, 0]) 46 (0, 0)) := by
    rw [setRow_other _ _ _ _ (by omega)]; exact blk_alloc n0
  have hb2 := below_setRow (cs := K .i64 plL) (hb.alloc (by omega) (.cells (K .i64 (List.replicate 32 0)) 63)) (g := W.heap.size) (by omega)
  generalize (W.alloc (.cells (K .i64 (List.replicate 32 0)) 63)).setRow W.heap.size (K .i64 plL) = X at n1 n2 hb2 ⊢
  have HT := TW.hide (Tab.mid (w := X) (g := W.heap.size) (k := .i64) (l := plL) (fun j v hv => by rw [Nat.zero_add]; exact blk_cell n1 (by simpa [K] using hv)) (i * 4) 4)
  have hlen : ((plL.drop (i * 4)).take 4).length = 4 := by simp [plL]; omega
  have hi71 : (Tryd.prog.info? 46).map (·.size) = some (((plL.drop (i * 4)).take 4).map (Value.int .i64)).length := by rw [List.length_map, hlen]; kernel_rfl
  have hj71 : (Tryd.prog.info? 46).map (·.size) = some (K .i64 ((plL.drop (i * 4)).take 4)).size := by rw [K_size, hlen]; kernel_rfl
  have HL := TW.hide hlen
  have HI := TW.hide hi71
  have HJ := TW.hide hj71
  have H2 := TW.hide n2
  have HB := TW.hide hb2
  clear hb n0 n1 n2 hb2 hlen hi71 hj71 hsz
  generalize W.heap.size = g at *
  generalize (plL.drop (i * 4)).take 4 = l at *
  have HO : Hid ((K .i64 [0, 0, 0, 0]).size = (K .i64 l).size) := by show _ = _; rw [K_size, K_size, HL.out]; rfl
  go_wp2_with (first | (refine wpList_load_mid (by rfl) 46 _ (by rfl) g (i * 4) (by rfl) (l.map (Value.int .i64)) _ HT.out Tryd.underlying46 rfl HI.out ?_) | (refine wpList_store_row (by rfl) 46 _ _ (by rfl) w.heap.size (K .i64 l) (by rfl) (by rfl) 46 _ H2.out HJ.out HO.out (K_one _ _) ?_))
  refine bodyPost_ret (v := .agg (K .i64 l)) (results_cell_row (P := Tryd.prog) Tryd.results24 _ _ w.heap.size 46 (K .i64 l) (0, 0) _ (by rfl) (setRow_heap _ _ _ _ _ _ H2.out) Tryd.underlying46 rfl HJ.out) rfl ?_
  exact ⟨rfl, below_setRow HB.out (Nat.le_refl _)⟩
set_option maxHeartbeats 8000000 in
theorem rperm (vs : List Int) (w : World) (hv : vs.length = 16) (hV : Ws vs) :
    Calls Tryd.prog 9 #[.agg (K .u64 vs)] w fun e w' => e = .returned (.agg (K .u64 (pmL vs))) ∧ Below w.heap.size w w' := by
  unfold pmL
  have hb := (((Below.refl w.heap.size w).alloc (Nat.le_refl _) (.cells (K .u64 vs) 23)).alloc (by simp; try omega) (.cells (K .u64 (List.replicate 16 0)) 23))
  have n0 := (blk_alloc (o' := .cells (K .u64 (List.replicate 16 0)) 23) (heap_new w (.cells (K .u64 vs) 23)))
  have n1 := (heap_new (w.alloc (.cells (K .u64 vs) 23)) (.cells (K .u64 (List.replicate 16 0)) 23))
  rw [show (w.alloc (.cells (K .u64 vs) 23)).heap.size = w.heap.size + 1 by simp] at n1
  go_enter Tryd.func9, Tryd.ntmps9
  refine wp_seq_k fun K hK => ?_
  have HK := TW.hide hK
  clear hK
  go_wp2
  refine HK.out _ _ ?_
  clear HK K
  change Code.wp _ _ _ _ ((w.alloc (.cells (K .u64 vs) 23)).alloc (.cells (K .u64 (List.replicate 16 0)) 23))
  generalize hWW : (w.alloc (.cells (K .u64 vs) 23)).alloc (.cells (K .u64 (List.replicate 16 0)) 23) = W at hb n0 n1 ⊢
  have hW : W.heap.size = w.heap.size + 1 + 1 := by rw [← hWW]; simp
  clear hWW
  generalize hB : w.heap.size = B at *
  have H0 := TW.hide n0
  have H1 := TW.hide n1
  have HB := TW.hide hb
  clear n0 n1 hb
  clear hB hW
  go_wp2
  go_loopw [3] (fun i wr => ∃ k : Nat, k ≤ 8 ∧ i = .int .i64 k ∧ Hid (wr.heap[B]? = some (.cells (K .u64 (pmTo vs k)) 23 (0, 0))) ∧ Hid (wr.heap[B + 1]? = some (.cells (K .u64 (List.replicate 16 0)) 23 (0, 0))) ∧ Hid (Below B w wr)) (fun i _ => 8 - (intOf i).toNat)
  case atStart => exact ⟨0, Nat.zero_le _, rfl, H0, H1, HB⟩
  case round =>
    obtain ⟨k, hk, rfl, N0, N1, NB⟩ := hrel
    clear H0 H1 HB
    by_cases hlt : k < 8
    · have hk0 : (0 : Int) ≤ (k : Int) := by omega
      obtain ⟨a0, a1, a2, a3, d1, d2, d3, d4, d5, d6, hrow⟩ := pl_all k hlt
      have hpl := fun X => rplaces k X hlt
      rw [hrow] at hpl
      clear hrow
      have hst : pmTo vs (k + 1) = G4 (pmTo vs k) (pl k 0) (pl k 1) (pl k 2) (pl k 3) := rfl
      have hfl : (pmTo vs k).length = 16 := by rw [pmTo_length, hv]
      have hfw : Ws (pmTo vs k) := pmTo_Ws k hV
      generalize hU1 : pmTo vs (k + 1) = us' at *
      have HU1 := TW.hide hU1
      clear hU1
      generalize pmTo vs k = us at *
      generalize pl k 0 = p0 at *
      generalize pl k 1 = p1 at *
      generalize pl k 2 = p2 at *
      generalize pl k 3 = p3 at *
      have HPL := TW.hide hpl
      have q1 : (k : Int) < 8 := by omega
      have HST := TW.hide hst
      have HFL := TW.hide hfl
      have HFW := TW.hide hfw
      clear hst hfl hfw
      clear hpl
      have HA : Hid (p0 < 16 ∧ p1 < 16 ∧ p2 < 16 ∧ p3 < 16) := ⟨a0, a1, a2, a3⟩
      clear d1 d2 d3 d4 d5 d6
      refine wp_seq_k fun Kc hKc => ?_
      have HKc := TW.hide hKc
      clear hKc
      go_wp2
      refine HKc.out _ _ ?_
      clear HKc Kc
      refine wp_seq_k fun Kq hKq => ?_
      have HKq := TW.hide hKq
      clear hKq
      refine wp_block ?_
      refine wp_seq_k fun KK hK => ?_
      have HK := TW.hide hK
      clear hK
      go_wp2_with fail
      refine (HPL.out _).mono ?_
      rintro e w1 ⟨rfl, hb1⟩
      have M0 := TW.hide (blk_keep N0.out hb1)
      have M1 := TW.hide (blk_keep N1.out hb1)
      have MB : Hid (Below B w w1) := below_row NB.out hb1 (by have := blk_lt N0.out; omega)
      have hwo : B + 1 < w1.heap.size := by have := blk_lt M1.out; omega
      clear hb1 N0 N1 NB HPL
      go_wp2_with (first | (refine wpList_store_row (by rfl) 46 _ _ (by rfl) w1.heap.size (K .i64 [(p0 : Int), (p1 : Int), (p2 : Int), (p3 : Int)]) (by rfl) (by rfl) 46 _ (heap_new w1 _) (by kernel_rfl) (by kernel_rfl) (K_one _ _) ?_))
      have nO := setRow_heap _ _ _ (K .i64 [(p0 : Int), (p1 : Int), (p2 : Int), (p3 : Int)]) _ _ (heap_new w1 (.cells #[.int .i64 0, .int .i64 0, .int .i64 0, .int .i64 0] 46))
      have bO := below_setRow (cs := (K .i64 [(p0 : Int), (p1 : Int), (p2 : Int), (p3 : Int)])) ((Below.refl w1.heap.size w1).alloc (Nat.le_refl _) (.cells #[.int .i64 0, .int .i64 0, .int .i64 0, .int .i64 0] 46)) (g := w1.heap.size) (Nat.le_refl _)
      generalize (w1.alloc (.cells #[.int .i64 0, .int .i64 0, .int .i64 0, .int .i64 0] 46)).setRow w1.heap.size (K .i64 [(p0 : Int), (p1 : Int), (p2 : Int), (p3 : Int)]) = XA at nO bO ⊢
      refine HK.out _ _ ?_
      clear HK KK
      try simp only [Act.put]
      have NV : Hid (XA.heap[B]? = some (.cells (K .u64 us) 23 (0, 0))) := blk_keep M0.out bO
      have NA : Hid (XA.heap[B + 1]? = some (.cells (K .u64 (List.replicate 16 0)) 23 (0, 0))) := blk_keep M1.out bO
      have NP := TW.hide nO
      have NBX : Hid (Below B w XA) := below_row MB.out bO (by have := blk_lt M0.out; omega)
      generalize w1.heap.size = gp at *
      clear nO bO M0 M1 MB
      have hmix := fun W => rblend (us.getD p0 0) (us.getD p1 0) (us.getD p2 0) (us.getD p3 0) W (HFW.out.get _) (HFW.out.get _) (HFW.out.get _) (HFW.out.get _)
      have hc0 := blk_cellK NV.out (i := p0) (by rw [HFL.out]; exact a0)
      have hc1 := blk_cellK NV.out (i := p1) (by rw [HFL.out]; exact a1)
      have hc2 := blk_cellK NV.out (i := p2) (by rw [HFL.out]; exact a2)
      have hc3 := blk_cellK NV.out (i := p3) (by rw [HFL.out]; exact a3)
      generalize hVa : us.getD p0 0 = va at *
      have HVA := TW.hide hVa
      clear hVa
      generalize hVb : us.getD p1 0 = vb at *
      have HVB := TW.hide hVb
      clear hVb
      generalize hVc : us.getD p2 0 = vc at *
      have HVC := TW.hide hVc
      clear hVc
      generalize hVd : us.getD p3 0 = vd at *
      have HVD := TW.hide hVd
      clear hVd
      have hst2 : us' = put4 us p0 p1 p2 p3 (blL va vb vc vd) := by rw [HST.out]; unfold G4; rw [HVA.out, HVB.out, HVC.out, HVD.out]
      generalize blL va vb vc vd = q at *
      obtain ⟨r0, r1, r2, r3⟩ := q
      simp only at hmix
      have HST2 : Hid (us' = stN us [(p0 : Int), (p1 : Int), (p2 : Int), (p3 : Int)] [r0, r1, r2, r3] 4) := by show _ = _; rw [stN_put4]; exact hst2
      have HMIX : Hid (∀ W, Calls Tryd.prog 7 #[.int .u64 va, .int .u64 vb, .int .u64 vc, .int .u64 vd] W fun e w' => e = .returned (.agg (K .u64 [r0, r1, r2, r3])) ∧ Below W.heap.size W w') := hmix
      have HCC : Hid (∀ Z : World, Below XA.heap.size XA Z → (Z.cell? ⟨gp, 0, none⟩ = some (.int .i64 p0) ∧ Z.cell? ⟨gp, 1, none⟩ = some (.int .i64 p1) ∧ Z.cell? ⟨gp, 2, none⟩ = some (.int .i64 p2) ∧ Z.cell? ⟨gp, 3, none⟩ = some (.int .i64 p3)) ∧ Z.cell? ⟨B, p0, none⟩ = some (.int .u64 va) ∧ Z.cell? ⟨B, p1, none⟩ = some (.int .u64 vb) ∧ Z.cell? ⟨B, p2, none⟩ = some (.int .u64 vc) ∧ Z.cell? ⟨B, p3, none⟩ = some (.int .u64 vd)) := fun Z hZ => by
        have h0 := blk_keep NP.out hZ
        refine ⟨⟨blk_cell h0 (i := 0) rfl, blk_cell h0 (i := 1) rfl, blk_cell h0 (i := 2) rfl, blk_cell h0 (i := 3) rfl⟩, ?_, ?_, ?_, ?_⟩
        · rw [hZ.cell (blk_lt NV.out)]; exact hc0
        · rw [hZ.cell (blk_lt NV.out)]; exact hc1
        · rw [hZ.cell (blk_lt NV.out)]; exact hc2
        · rw [hZ.cell (blk_lt NV.out)]; exact hc3
      have j0 : (p0 : Int) < 16 := by omega
      have j1 : (p1 : Int) < 16 := by omega
      have j2 : (p2 : Int) < 16 := by omega
      have j3 : (p3 : Int) < 16 := by omega
      have hB0 : Hid (Below XA.heap.size XA XA) := Below.refl _ _
      clear hst2 hmix hc0 hc1 hc2 hc3
      refine wp_seq_k fun Kr hKr => ?_
      have HKr := TW.hide hKr
      clear hKr
      refine wp_region_noPanic ?_
      refine RG.wp_region_L (fun Z => True) (fun Z => Below XA.heap.size XA Z) [] (by kernel_rfl) ?_
      refine RG.wpL_any fun Yp hY => ?_
      have HTp : Hid (Below XA.heap.size XA Yp) := by rw [hY]; exact below_drewN hB0.out 1
      clear hY
      refine RG.wpL_take (fuel := 3) (a' := ?Ap) [0, 1, 2, 3, 4, 5, 6, 7, 8, 9, 10, 11, 12, 13, 14, 15] (by kernel_rfl) (by kernel_rfl) (fun _ _ _ _ _ h => h) HTp.out (fun _ => trivial) ?rp ?_
      case rp =>
        refine RG.RunsIf.weak (v := ?_) (by rfl) (by rfl) (fun Z hT => ?_) ?_
        rotate_left
        · obtain ⟨⟨z0, z1, z2, z3⟩, z4, z5, z6, z7⟩ := HCC.out Z hT
          go_simp
          rfl
        simp only [Act.put, List.setIfInBounds_toArray, List.set_cons_zero, List.set_cons_succ, List.getElem_toArray, List.getElem_cons_zero, List.getElem_cons_succ]
        refine RG.RunsIf.weak (v := ?_) (by rfl) (by rfl) (fun Z hT => ?_) ?_
        rotate_left
        · obtain ⟨⟨z0, z1, z2, z3⟩, z4, z5, z6, z7⟩ := HCC.out Z hT
          go_simp
          rfl
        simp only [Act.put, List.setIfInBounds_toArray, List.set_cons_zero, List.set_cons_succ, List.getElem_toArray, List.getElem_cons_zero, List.getElem_cons_succ]
        refine RG.RunsIf.weak (v := ?_) (by rfl) (by rfl) (fun Z hT => ?_) ?_
        rotate_left
        · obtain ⟨⟨z0, z1, z2, z3⟩, z4, z5, z6, z7⟩ := HCC.out Z hT
          go_simp
          rfl
        simp only [Act.put, List.setIfInBounds_toArray, List.set_cons_zero, List.set_cons_succ, List.getElem_toArray, List.getElem_cons_zero, List.getElem_cons_succ]
        refine RG.RunsIf.weak (v := ?_) (by rfl) (by rfl) (fun Z hT => ?_) ?_
        rotate_left
        · obtain ⟨⟨z0, z1, z2, z3⟩, z4, z5, z6, z7⟩ := HCC.out Z hT
          go_simp
          rfl
        simp only [Act.put, List.setIfInBounds_toArray, List.set_cons_zero, List.set_cons_succ, List.getElem_toArray, List.getElem_cons_zero, List.getElem_cons_succ]
        refine RG.RunsIf.weak (v := ?_) (by rfl) (by rfl) (fun Z hT => ?_) ?_
        rotate_left
        · obtain ⟨⟨z0, z1, z2, z3⟩, z4, z5, z6, z7⟩ := HCC.out Z hT
          go_simp
          rfl
        simp only [Act.put, List.setIfInBounds_toArray, List.set_cons_zero, List.set_cons_succ, List.getElem_toArray, List.getElem_cons_zero, List.getElem_cons_succ]
        refine RG.RunsIf.weak (v := ?_) (by rfl) (by rfl) (fun Z hT => ?_) ?_
        rotate_left
        · obtain ⟨⟨z0, z1, z2, z3⟩, z4, z5, z6, z7⟩ := HCC.out Z hT
          go_simp
          rfl
        simp only [Act.put, List.setIfInBounds_toArray, List.set_cons_zero, List.set_cons_succ, List.getElem_toArray, List.getElem_cons_zero, List.getElem_cons_succ]
        refine RG.RunsIf.weak (v := ?_) (by rfl) (by rfl) (fun Z hT => ?_) ?_
        rotate_left
        · obtain ⟨⟨z0, z1, z2, z3⟩, z4, z5, z6, z7⟩ := HCC.out Z hT
          go_simp
          rfl
        simp only [Act.put, List.setIfInBounds_toArray, List.set_cons_zero, List.set_cons_succ, List.getElem_toArray, List.getElem_cons_zero, List.getElem_cons_succ]
        refine RG.RunsIf.weak (v := ?_) (by rfl) (by rfl) (fun Z hT => ?_) ?_
        rotate_left
        · obtain ⟨⟨z0, z1, z2, z3⟩, z4, z5, z6, z7⟩ := HCC.out Z hT
          go_simp
          rfl
        simp only [Act.put, List.setIfInBounds_toArray, List.set_cons_zero, List.set_cons_succ, List.getElem_toArray, List.getElem_cons_zero, List.getElem_cons_succ]
        refine RG.RunsIf.weak (v := ?_) (by rfl) (by rfl) (fun Z hT => ?_) ?_
        rotate_left
        · obtain ⟨⟨z0, z1, z2, z3⟩, z4, z5, z6, z7⟩ := HCC.out Z hT
          go_simp
          rfl
        simp only [Act.put, List.setIfInBounds_toArray, List.set_cons_zero, List.set_cons_succ, List.getElem_toArray, List.getElem_cons_zero, List.getElem_cons_succ]
        refine RG.RunsIf.weak (v := ?_) (by rfl) (by rfl) (fun Z hT => ?_) ?_
        rotate_left
        · obtain ⟨⟨z0, z1, z2, z3⟩, z4, z5, z6, z7⟩ := HCC.out Z hT
          go_simp
          rfl
        simp only [Act.put, List.setIfInBounds_toArray, List.set_cons_zero, List.set_cons_succ, List.getElem_toArray, List.getElem_cons_zero, List.getElem_cons_succ]
        refine RG.RunsIf.weak (v := ?_) (by rfl) (by rfl) (fun Z hT => ?_) ?_
        rotate_left
        · obtain ⟨⟨z0, z1, z2, z3⟩, z4, z5, z6, z7⟩ := HCC.out Z hT
          go_simp
          rfl
        simp only [Act.put, List.setIfInBounds_toArray, List.set_cons_zero, List.set_cons_succ, List.getElem_toArray, List.getElem_cons_zero, List.getElem_cons_succ]
        refine RG.RunsIf.weak (v := ?_) (by rfl) (by rfl) (fun Z hT => ?_) ?_
        rotate_left
        · obtain ⟨⟨z0, z1, z2, z3⟩, z4, z5, z6, z7⟩ := HCC.out Z hT
          go_simp
          rfl
        simp only [Act.put, List.setIfInBounds_toArray, List.set_cons_zero, List.set_cons_succ, List.getElem_toArray, List.getElem_cons_zero, List.getElem_cons_succ]
        refine RG.RunsIf.weak (v := ?_) (by rfl) (by rfl) (fun Z hT => ?_) ?_
        rotate_left
        · obtain ⟨⟨z0, z1, z2, z3⟩, z4, z5, z6, z7⟩ := HCC.out Z hT
          go_simp
          rfl
        simp only [Act.put, List.setIfInBounds_toArray, List.set_cons_zero, List.set_cons_succ, List.getElem_toArray, List.getElem_cons_zero, List.getElem_cons_succ]
        refine RG.RunsIf.weak (v := ?_) (by rfl) (by rfl) (fun Z hT => ?_) ?_
        rotate_left
        · obtain ⟨⟨z0, z1, z2, z3⟩, z4, z5, z6, z7⟩ := HCC.out Z hT
          go_simp
          rfl
        simp only [Act.put, List.setIfInBounds_toArray, List.set_cons_zero, List.set_cons_succ, List.getElem_toArray, List.getElem_cons_zero, List.getElem_cons_succ]
        refine RG.RunsIf.weak (v := ?_) (by rfl) (by rfl) (fun Z hT => ?_) ?_
        rotate_left
        · obtain ⟨⟨z0, z1, z2, z3⟩, z4, z5, z6, z7⟩ := HCC.out Z hT
          go_simp
          rfl
        simp only [Act.put, List.setIfInBounds_toArray, List.set_cons_zero, List.set_cons_succ, List.getElem_toArray, List.getElem_cons_zero, List.getElem_cons_succ]
        refine RG.RunsIf.weak (v := ?_) (by rfl) (by rfl) (fun Z hT => ?_) ?_
        rotate_left
        · obtain ⟨⟨z0, z1, z2, z3⟩, z4, z5, z6, z7⟩ := HCC.out Z hT
          go_simp
          rfl
        simp only [Act.put, List.setIfInBounds_toArray, List.set_cons_zero, List.set_cons_succ, List.getElem_toArray, List.getElem_cons_zero, List.getElem_cons_succ]
        exact RG.RunsIf.nil
      refine RG.wpL_pair (i := 16) (j := 17) (by kernel_rfl) (by rfl) (by rfl) (by rfl) (by rfl) (fun KX hK => ?_) (fun KX hK => ?_)
      · have HK := TW.hide hK
        clear hK
        go_simp
        refine (HMIX.out Yp).mono ?_
        rintro e W1 ⟨rfl, hb1⟩
        have Hc : Hid (Below XA.heap.size XA W1) := below_row HTp.out hb1 HTp.out.size
        refine HK.out _ _ Hc.out (fun _ => trivial) ?_
        clear HK KX hb1
        try simp only [Act.put, List.setIfInBounds_toArray, List.set_cons_zero, List.set_cons_succ, List.getElem_toArray, List.getElem_cons_zero, List.getElem_cons_succ]
        refine RG.wpL_take (fuel := 2) (a' := ?App) [] (by kernel_rfl) (by kernel_rfl) (fun _ _ _ _ _ h => h) Hc.out (fun _ => trivial) ?rpp ?_
        case rpp =>
          exact RG.RunsIf.nil
        have hgB : XA.heap.size ≤ W1.heap.size := Hc.out.size
        have Ha : Hid (Below XA.heap.size XA (W1.alloc (.cells #[.int .u64 0, .int .u64 0, .int .u64 0, .int .u64 0] 26))) := Hc.out.alloc hgB _
        have Na := TW.hide (heap_new W1 (.cells #[.int .u64 0, .int .u64 0, .int .u64 0, .int .u64 0] 26))
        refine RG.wpL_step (i := 17) (by kernel_rfl) (by rfl) (by rfl) (fun KX hK => ?_)
        have HK := TW.hide hK
        clear hK
        go_simp
        refine HK.out _ _ Ha.out (fun _ => trivial) ?_
        clear HK KX Hc
        generalize W1.alloc (.cells #[.int .u64 0, .int .u64 0, .int .u64 0, .int .u64 0] 26) = X1 at *
        generalize W1.heap.size = g at *
        have hgl1 : g < X1.heap.size := blk_lt Na.out
        have T51 : Hid (Below XA.heap.size XA (X1.setRow g (K .u64 [r0, r1, r2, r3]))) := below_setRow Ha.out hgB
        have N51 := TW.hide (setRow_heap _ _ _ (K .u64 [r0, r1, r2, r3]) _ _ Na.out)
        refine RG.wpL_step (i := 18) (by kernel_rfl) (by rfl) (by rfl) (fun KX hK => ?_)
        have HK := TW.hide hK
        clear hK
        refine wp_store_row 26 _ _ (by rfl) g (K .u64 [r0, r1, r2, r3]) (by rfl) (by rfl) 26 _ Na.out (by kernel_rfl) (by rfl) (K_one _ _) ?_
        simp only [Act.put, List.setIfInBounds_toArray, List.set_cons_zero, List.set_cons_succ, List.getElem_toArray, List.getElem_cons_zero, List.getElem_cons_succ]
        refine HK.out _ _ T51.out (fun _ => trivial) ?_
        clear HK KX Ha Na
        generalize X1.setRow g (K .u64 [r0, r1, r2, r3]) = Z1 at *
        refine RG.wpL_done (by kernel_rfl) ?_ _
        refine NoPanic.normal ?_
        refine HKr.out _ _ ?_
        have MVx : Hid (Z1.heap[B]? = some (.cells (K .u64 us) 23 (0, 0))) := blk_keep NV.out T51.out
        have MAx : Hid (Z1.heap[B + 1]? = some (.cells (K .u64 (List.replicate 16 0)) 23 (0, 0))) := blk_keep NA.out T51.out
        have MPx : Hid (Z1.heap[gp]? = some (.cells (K .i64 [(p0 : Int), (p1 : Int), (p2 : Int), (p3 : Int)]) 46 (0, 0))) := blk_keep NP.out T51.out
        have MBx : Hid (Below B w Z1) := below_row NBX.out T51.out (by have := blk_lt NV.out; omega)
        have hgg : gp < g := Nat.lt_of_lt_of_le (blk_lt NP.out) hgB
        have HPP : Hid ([p0, p1, p2, p3].all (· < 16) = true) := by show _ = true; simp [a0, a1, a2, a3]
        have HLR : Hid ([r0, r1, r2, r3].length = 4) := rfl
        have HPJ : Hid (∀ j : Nat, j < 4 → ∃ pj : Nat, pj < 16 ∧ [(p0 : Int), (p1 : Int), (p2 : Int), (p3 : Int)].getD j 0 = (pj : Int)) := fun j hj => by
          have : j = 0 ∨ j = 1 ∨ j = 2 ∨ j = 3 := by omega
          rcases this with rfl | rfl | rfl | rfl
          · exact ⟨p0, a0, rfl⟩
          · exact ⟨p1, a1, rfl⟩
          · exact ⟨p2, a2, rfl⟩
          · exact ⟨p3, a3, rfl⟩
        have HLP : Hid ([(p0 : Int), (p1 : Int), (p2 : Int), (p3 : Int)].length = 4) := rfl
        clear HCC HMIX j0 j1 j2 j3
        generalize hPS : [(p0 : Int), (p1 : Int), (p2 : Int), (p3 : Int)] = PS at *
        generalize hRS : [r0, r1, r2, r3] = rs at *
        clear hPS hRS
        go_wp2
        go_loopw [6] (fun jv wk => ∃ j : Nat, j ≤ 4 ∧ jv = .int .i64 (j : Int) ∧ Hid (wk.heap[B]? = some (.cells (K .u64 (stN us PS rs j)) 23 (0, 0))) ∧ Hid (wk.heap[B + 1]? = some (.cells (K .u64 (List.replicate 16 0)) 23 (0, 0))) ∧ Hid (wk.heap[gp]? = some (.cells (K .i64 PS) 46 (0, 0))) ∧ Hid (wk.heap[g]? = some (.cells (K .u64 rs) 26 (0, 0))) ∧ Hid (Below B w wk)) (fun jv _ => 4 - (intOf jv).toNat)
        case atStart => exact ⟨0, by omega, rfl, MVx, MAx, MPx, N51, MBx⟩
        case round =>
          clear MVx MAx MPx MBx N51 T51
          obtain ⟨j, hj, rfl, MV, MA, MP, MR, MB⟩ := hrel
          obtain ⟨wk, rfl⟩ : ∃ y, y = wr := ⟨_, rfl⟩
          by_cases hlj : j < 4
          · have x1 : (j : Int) < 4 := by omega
            have x0 : (0 : Int) ≤ (j : Int) := by omega
            obtain ⟨pj, hp1, hp2⟩ := HPJ.out j hlj
            have cP := blk_cellK MP.out (i := j) (by rw [HLP.out]; exact hlj)
            have cR := blk_cellK MR.out (i := j) (by rw [HLR.out]; exact hlj)
            have hsl : (stN us PS rs j).length = 16 := by rw [stN_length, HFL.out]
            have hss : stN us PS rs (j + 1) = (stN us PS rs j).set pj (rs.getD j 0) := by rw [stN, hp2, Int.toNat_natCast]
            rw [hp2] at cP
            generalize rs.getD j 0 = rj at *
            have HSL := TW.hide hsl
            have HSS := TW.hide hss
            have HLJ : Hid (j < 4) := hlj
            have x2 : (pj : Int) < 16 := by omega
            have HP1 : Hid (pj < 16) := hp1
            clear hsl hss hp2 hlj hj hp1
            refine wp_seq_k fun Kc hKc => ?_
            have HKc := TW.hide hKc
            clear hKc
            go_wp2
            refine HKc.out _ _ ?_
            clear HKc Kc
            refine wp_seq_k fun Kj hKj => ?_
            have HKj := TW.hide hKj
            clear hKj
            refine wp_block ?_
            have HCJ : Hid (∀ Z : World, Z.heap = wk.heap → Z.cell? ⟨gp, j, none⟩ = some (.int .i64 pj) ∧ Z.cell? ⟨g, j, none⟩ = some (.int .u64 rj)) := fun Z hZ => by
              simp only [World.cell?, hZ] at cP cR ⊢
              exact ⟨cP, cR⟩
            refine wp_region_noPanic ?_
            refine RG.wp_region_L (fun Z => Z.cell? ⟨gp, j, none⟩ = some (.int .i64 pj) ∧ Z.cell? ⟨g, j, none⟩ = some (.int .u64 rj)) (fun Z => True) [7] (by kernel_rfl) ?_
            refine RG.wpL_any fun Y0 hY => ?_
            have NB0 : Hid (Below B w Y0) := by rw [hY]; exact below_drewN MB.out 1
            have hYh : Y0.heap = wk.heap := by rw [hY]; rfl
            have NV0 : Hid (Y0.heap[B]? = some (.cells (K .u64 (stN us PS rs j)) 23 (0, 0))) := by show _ = _; rw [hYh]; exact MV.out
            have NA0 : Hid (Y0.heap[B + 1]? = some (.cells (K .u64 (List.replicate 16 0)) 23 (0, 0))) := by show _ = _; rw [hYh]; exact MA.out
            have NP0 : Hid (Y0.heap[gp]? = some (.cells (K .i64 PS) 46 (0, 0))) := by show _ = _; rw [hYh]; exact MP.out
            have NR0 : Hid (Y0.heap[g]? = some (.cells (K .u64 rs) 26 (0, 0))) := by show _ = _; rw [hYh]; exact MR.out
            clear hY cP cR
            refine RG.wpL_take (fuel := 1) (a' := ?Ax) [0, 1, 2, 3, 4, 5, 6] (by kernel_rfl) (by kernel_rfl) (fun _ _ _ _ _ h => h) trivial (fun _ => HCJ.out _ hYh) ?rx ?_
            case rx =>
              iterate 2
                refine RG.RunsIf.weak (v := ?_) (by rfl) (by rfl) (fun Z hT => ?_) ?_
                rotate_left
                · go_simp
                  rfl
                simp only [Act.put, List.setIfInBounds_toArray, List.set_cons_zero, List.set_cons_succ]
              iterate 1
                refine RG.RunsIf.strong (v := ?_) (by rfl) (by kernel_rfl) (by rfl) (fun Z hT hS => ?_) ?_
                rotate_left
                · go_simp
                  rfl
                simp only [Act.put, List.setIfInBounds_toArray, List.set_cons_zero, List.set_cons_succ]
              iterate 2
                refine RG.RunsIf.weak (v := ?_) (by rfl) (by rfl) (fun Z hT => ?_) ?_
                rotate_left
                · go_simp
                  rfl
                simp only [Act.put, List.setIfInBounds_toArray, List.set_cons_zero, List.set_cons_succ]
              iterate 1
                refine RG.RunsIf.strong (v := ?_) (by rfl) (by kernel_rfl) (by rfl) (fun Z hT hS => ?_) ?_
                rotate_left
                · go_simp
                  rfl
                simp only [Act.put, List.setIfInBounds_toArray, List.set_cons_zero, List.set_cons_succ]
              iterate 1
                refine RG.RunsIf.weak (v := ?_) (by rfl) (by rfl) (fun Z hT => ?_) ?_
                rotate_left
                · go_simp
                  rfl
                simp only [Act.put, List.setIfInBounds_toArray, List.set_cons_zero, List.set_cons_succ]
              exact RG.RunsIf.nil
            have c0 := blk_cellK NV0.out (i := pj) (by rw [HSL.out]; exact HP1.out)
            have f0 := blk_frozen NV0.out (i := pj)
            refine RG.wpL_late (i := 7) (by kernel_rfl) (by rfl) (by rfl) (by kernel_rfl) (fun KX hK => ?_)
            have HK := TW.hide hK
            clear hK
            go_simp
            have NV1 := TW.hide (blk_setK (i := pj) (x := rj) NV0.out)
            rw [← HSS.out] at NV1
            have NP1 := TW.hide (blk_other (p := B) (o := pj) (u := .int .u64 rj) NP0.out (by omega))
            have NR1 := TW.hide (blk_other (p := B) (o := pj) (u := .int .u64 rj) NR0.out (by omega))
            have NB1 := TW.hide (NB0.out.setCell (p := ⟨B, pj, none⟩) (Nat.le_refl B) (.int .u64 rj))
            have NA1 := TW.hide (blk_other (p := B) (o := pj) (u := .int .u64 rj) NA0.out (by omega))
            refine HK.out _ _ trivial ?_
            clear HK KX c0 f0 NV0 NP0 NR0 NB0 NA0 HCJ
            generalize Y0.setCell ⟨B, pj, none⟩ (.int .u64 rj) = Y1 at *
            refine RG.wpL_done (by kernel_rfl) ?_ _
            refine NoPanic.normal ?_
            refine HKj.out _ _ ?_
            clear HKj
            go_wp2
            go_roundw
            case rel => exact ⟨j + 1, HLJ.out, by go_num, NV1, NA1, NP1, NR1, NB1⟩
            case measure => simp [intOf]; have := HLJ.out; omega
          · obtain rfl : j = 4 := by omega
            have x1 : ¬ ((4 : Nat) : Int) < 4 := by omega
            rw [← HST2.out, ← HU1.out] at MV
            clear x1 hlj hj
            go_wp2
            refine HKq.out _ _ ?_
            go_wp2
            go_roundw
            case rel => exact ⟨k + 1, by omega, by go_num, MV, MA, MB⟩
            case measure => simp [intOf]; omega
      · have HK := TW.hide hK
        clear hK
        have hgB : XA.heap.size ≤ Yp.heap.size := HTp.out.size
        have Ha : Hid (Below XA.heap.size XA (Yp.alloc (.cells #[.int .u64 0, .int .u64 0, .int .u64 0, .int .u64 0] 26))) := HTp.out.alloc hgB _
        have Na := TW.hide (heap_new Yp (.cells #[.int .u64 0, .int .u64 0, .int .u64 0, .int .u64 0] 26))
        go_simp
        refine HK.out _ _ Ha.out (fun _ => trivial) ?_
        clear HK KX HTp
        generalize Yp.alloc (.cells #[.int .u64 0, .int .u64 0, .int .u64 0, .int .u64 0] 26) = X0 at *
        generalize Yp.heap.size = g at *
        try simp only [Act.put, List.setIfInBounds_toArray, List.set_cons_zero, List.set_cons_succ, List.getElem_toArray, List.getElem_cons_zero, List.getElem_cons_succ]
        refine RG.wpL_step (i := 16) (by kernel_rfl) (by rfl) (by rfl) (fun KX hK => ?_)
        have HK := TW.hide hK
        clear hK
        go_simp
        refine (HMIX.out X0).mono ?_
        rintro e X2 ⟨rfl, hb1⟩
        have Hc : Hid (Below XA.heap.size XA X2) := below_row Ha.out hb1 Ha.out.size
        have Nc := TW.hide (blk_keep Na.out hb1)
        refine HK.out _ _ Hc.out (fun _ => trivial) ?_
        clear HK KX hb1 Ha Na
        try simp only [Act.put, List.setIfInBounds_toArray, List.set_cons_zero, List.set_cons_succ, List.getElem_toArray, List.getElem_cons_zero, List.getElem_cons_succ]
        refine RG.wpL_take (fuel := 1) (a' := ?Apq) [] (by kernel_rfl) (by kernel_rfl) (fun _ _ _ _ _ h => h) Hc.out (fun _ => trivial) ?rpq ?_
        case rpq =>
          exact RG.RunsIf.nil
        have hgl2 : g < X2.heap.size := blk_lt Nc.out
        have T52 : Hid (Below XA.heap.size XA (X2.setRow g (K .u64 [r0, r1, r2, r3]))) := below_setRow Hc.out hgB
        have N52 := TW.hide (setRow_heap _ _ _ (K .u64 [r0, r1, r2, r3]) _ _ Nc.out)
        refine RG.wpL_step (i := 18) (by kernel_rfl) (by rfl) (by rfl) (fun KX hK => ?_)
        have HK := TW.hide hK
        clear hK
        refine wp_store_row 26 _ _ (by rfl) g (K .u64 [r0, r1, r2, r3]) (by rfl) (by rfl) 26 _ Nc.out (by kernel_rfl) (by rfl) (K_one _ _) ?_
        simp only [Act.put, List.setIfInBounds_toArray, List.set_cons_zero, List.set_cons_succ, List.getElem_toArray, List.getElem_cons_zero, List.getElem_cons_succ]
        refine HK.out _ _ T52.out (fun _ => trivial) ?_
        clear HK KX Hc Nc
        generalize X2.setRow g (K .u64 [r0, r1, r2, r3]) = Z2 at *
        refine RG.wpL_done (by kernel_rfl) ?_ _
        refine NoPanic.normal ?_
        refine HKr.out _ _ ?_
        have MVy : Hid (Z2.heap[B]? = some (.cells (K .u64 us) 23 (0, 0))) := blk_keep NV.out T52.out
        have MAy : Hid (Z2.heap[B + 1]? = some (.cells (K .u64 (List.replicate 16 0)) 23 (0, 0))) := blk_keep NA.out T52.out
        have MPy : Hid (Z2.heap[gp]? = some (.cells (K .i64 [(p0 : Int), (p1 : Int), (p2 : Int), (p3 : Int)]) 46 (0, 0))) := blk_keep NP.out T52.out
        have MBy : Hid (Below B w Z2) := below_row NBX.out T52.out (by have := blk_lt NV.out; omega)
        have hgg : gp < g := Nat.lt_of_lt_of_le (blk_lt NP.out) hgB
        have HPP : Hid ([p0, p1, p2, p3].all (· < 16) = true) := by show _ = true; simp [a0, a1, a2, a3]
        have HLR : Hid ([r0, r1, r2, r3].length = 4) := rfl
        have HPJ : Hid (∀ j : Nat, j < 4 → ∃ pj : Nat, pj < 16 ∧ [(p0 : Int), (p1 : Int), (p2 : Int), (p3 : Int)].getD j 0 = (pj : Int)) := fun j hj => by
          have : j = 0 ∨ j = 1 ∨ j = 2 ∨ j = 3 := by omega
          rcases this with rfl | rfl | rfl | rfl
          · exact ⟨p0, a0, rfl⟩
          · exact ⟨p1, a1, rfl⟩
          · exact ⟨p2, a2, rfl⟩
          · exact ⟨p3, a3, rfl⟩
        have HLP : Hid ([(p0 : Int), (p1 : Int), (p2 : Int), (p3 : Int)].length = 4) := rfl
        clear HCC HMIX j0 j1 j2 j3
        generalize hPS : [(p0 : Int), (p1 : Int), (p2 : Int), (p3 : Int)] = PS at *
        generalize hRS : [r0, r1, r2, r3] = rs at *
        clear hPS hRS
        go_wp2
        go_loopw [6] (fun jv wk => ∃ j : Nat, j ≤ 4 ∧ jv = .int .i64 (j : Int) ∧ Hid (wk.heap[B]? = some (.cells (K .u64 (stN us PS rs j)) 23 (0, 0))) ∧ Hid (wk.heap[B + 1]? = some (.cells (K .u64 (List.replicate 16 0)) 23 (0, 0))) ∧ Hid (wk.heap[gp]? = some (.cells (K .i64 PS) 46 (0, 0))) ∧ Hid (wk.heap[g]? = some (.cells (K .u64 rs) 26 (0, 0))) ∧ Hid (Below B w wk)) (fun jv _ => 4 - (intOf jv).toNat)
        case atStart => exact ⟨0, by omega, rfl, MVy, MAy, MPy, N52, MBy⟩
        case round =>
          clear MVy MAy MPy MBy N52 T52
          obtain ⟨j, hj, rfl, MV, MA, MP, MR, MB⟩ := hrel
          obtain ⟨wk, rfl⟩ : ∃ y, y = wr := ⟨_, rfl⟩
          by_cases hlj : j < 4
          · have x1 : (j : Int) < 4 := by omega
            have x0 : (0 : Int) ≤ (j : Int) := by omega
            obtain ⟨pj, hp1, hp2⟩ := HPJ.out j hlj
            have cP := blk_cellK MP.out (i := j) (by rw [HLP.out]; exact hlj)
            have cR := blk_cellK MR.out (i := j) (by rw [HLR.out]; exact hlj)
            have hsl : (stN us PS rs j).length = 16 := by rw [stN_length, HFL.out]
            have hss : stN us PS rs (j + 1) = (stN us PS rs j).set pj (rs.getD j 0) := by rw [stN, hp2, Int.toNat_natCast]
            rw [hp2] at cP
            generalize rs.getD j 0 = rj at *
            have HSL := TW.hide hsl
            have HSS := TW.hide hss
            have HLJ : Hid (j < 4) := hlj
            have x2 : (pj : Int) < 16 := by omega
            have HP1 : Hid (pj < 16) := hp1
            clear hsl hss hp2 hlj hj hp1
            refine wp_seq_k fun Kc hKc => ?_
            have HKc := TW.hide hKc
            clear hKc
            go_wp2
            refine HKc.out _ _ ?_
            clear HKc Kc
            refine wp_seq_k fun Kj hKj => ?_
            have HKj := TW.hide hKj
            clear hKj
            refine wp_block ?_
            have HCJ : Hid (∀ Z : World, Z.heap = wk.heap → Z.cell? ⟨gp, j, none⟩ = some (.int .i64 pj) ∧ Z.cell? ⟨g, j, none⟩ = some (.int .u64 rj)) := fun Z hZ => by
              simp only [World.cell?, hZ] at cP cR ⊢
              exact ⟨cP, cR⟩
            refine wp_region_noPanic ?_
            refine RG.wp_region_L (fun Z => Z.cell? ⟨gp, j, none⟩ = some (.int .i64 pj) ∧ Z.cell? ⟨g, j, none⟩ = some (.int .u64 rj)) (fun Z => True) [7] (by kernel_rfl) ?_
            refine RG.wpL_any fun Y0 hY => ?_
            have NB0 : Hid (Below B w Y0) := by rw [hY]; exact below_drewN MB.out 1
            have hYh : Y0.heap = wk.heap := by rw [hY]; rfl
            have NV0 : Hid (Y0.heap[B]? = some (.cells (K .u64 (stN us PS rs j)) 23 (0, 0))) := by show _ = _; rw [hYh]; exact MV.out
            have NA0 : Hid (Y0.heap[B + 1]? = some (.cells (K .u64 (List.replicate 16 0)) 23 (0, 0))) := by show _ = _; rw [hYh]; exact MA.out
            have NP0 : Hid (Y0.heap[gp]? = some (.cells (K .i64 PS) 46 (0, 0))) := by show _ = _; rw [hYh]; exact MP.out
            have NR0 : Hid (Y0.heap[g]? = some (.cells (K .u64 rs) 26 (0, 0))) := by show _ = _; rw [hYh]; exact MR.out
            clear hY cP cR
            refine RG.wpL_take (fuel := 1) (a' := ?Ay) [0, 1, 2, 3, 4, 5, 6] (by kernel_rfl) (by kernel_rfl) (fun _ _ _ _ _ h => h) trivial (fun _ => HCJ.out _ hYh) ?ry ?_
            case ry =>
              iterate 2
                refine RG.RunsIf.weak (v := ?_) (by rfl) (by rfl) (fun Z hT => ?_) ?_
                rotate_left
                · go_simp
                  rfl
                simp only [Act.put, List.setIfInBounds_toArray, List.set_cons_zero, List.set_cons_succ]
              iterate 1
                refine RG.RunsIf.strong (v := ?_) (by rfl) (by kernel_rfl) (by rfl) (fun Z hT hS => ?_) ?_
                rotate_left
                · go_simp
                  rfl
                simp only [Act.put, List.setIfInBounds_toArray, List.set_cons_zero, List.set_cons_succ]
              iterate 2
                refine RG.RunsIf.weak (v := ?_) (by rfl) (by rfl) (fun Z hT => ?_) ?_
                rotate_left
                · go_simp
                  rfl
                simp only [Act.put, List.setIfInBounds_toArray, List.set_cons_zero, List.set_cons_succ]
              iterate 1
                refine RG.RunsIf.strong (v := ?_) (by rfl) (by kernel_rfl) (by rfl) (fun Z hT hS => ?_) ?_
                rotate_left
                · go_simp
                  rfl
                simp only [Act.put, List.setIfInBounds_toArray, List.set_cons_zero, List.set_cons_succ]
              iterate 1
                refine RG.RunsIf.weak (v := ?_) (by rfl) (by rfl) (fun Z hT => ?_) ?_
                rotate_left
                · go_simp
                  rfl
                simp only [Act.put, List.setIfInBounds_toArray, List.set_cons_zero, List.set_cons_succ]
              exact RG.RunsIf.nil
            have c0 := blk_cellK NV0.out (i := pj) (by rw [HSL.out]; exact HP1.out)
            have f0 := blk_frozen NV0.out (i := pj)
            refine RG.wpL_late (i := 7) (by kernel_rfl) (by rfl) (by rfl) (by kernel_rfl) (fun KX hK => ?_)
            have HK := TW.hide hK
            clear hK
            go_simp
            have NV1 := TW.hide (blk_setK (i := pj) (x := rj) NV0.out)
            rw [← HSS.out] at NV1
            have NP1 := TW.hide (blk_other (p := B) (o := pj) (u := .int .u64 rj) NP0.out (by omega))
            have NR1 := TW.hide (blk_other (p := B) (o := pj) (u := .int .u64 rj) NR0.out (by omega))
            have NB1 := TW.hide (NB0.out.setCell (p := ⟨B, pj, none⟩) (Nat.le_refl B) (.int .u64 rj))
            have NA1 := TW.hide (blk_other (p := B) (o := pj) (u := .int .u64 rj) NA0.out (by omega))
            refine HK.out _ _ trivial ?_
            clear HK KX c0 f0 NV0 NP0 NR0 NB0 NA0 HCJ
            generalize Y0.setCell ⟨B, pj, none⟩ (.int .u64 rj) = Y1 at *
            refine RG.wpL_done (by kernel_rfl) ?_ _
            refine NoPanic.normal ?_
            refine HKj.out _ _ ?_
            clear HKj
            go_wp2
            go_roundw
            case rel => exact ⟨j + 1, HLJ.out, by go_num, NV1, NA1, NP1, NR1, NB1⟩
            case measure => simp [intOf]; have := HLJ.out; omega
          · obtain rfl : j = 4 := by omega
            have x1 : ¬ ((4 : Nat) : Int) < 4 := by omega
            rw [← HST2.out, ← HU1.out] at MV
            clear x1 hlj hj
            go_wp2
            refine HKq.out _ _ ?_
            go_wp2
            go_roundw
            case rel => exact ⟨k + 1, by omega, by go_num, MV, MA, MB⟩
            case measure => simp [intOf]; omega
    · obtain rfl : k = 8 := by omega
      have hfl : (pmTo vs 8).length = 16 := by rw [pmTo_length, hv]
      have hi31 : (Tryd.prog.info? 23).map (·.size) = some (K .u64 (pmTo vs 8)).size := by rw [K_size, hfl]; kernel_rfl
      have HO : Hid ((K .u64 (List.replicate 16 0)).size = (K .u64 (pmTo vs 8)).size) := by show _ = _; rw [K_size, K_size, hfl]; rfl
      have HI := TW.hide hi31
      clear hi31 hfl
      generalize hU : pmTo vs 8 = us at *
      have HU := TW.hide hU
      clear hU
      go_wp2_with (first | (refine wpList_load_row (by rfl) 23 _ (by rfl) B (by rfl) 23 (K .u64 us) (0, 0) _ N0.out Tryd.underlying23 rfl HI.out ?_) | (refine wpList_store_row (by rfl) 23 _ _ (by rfl) (B + 1) (K .u64 us) (by rfl) (by rfl) 23 _ N1.out HI.out HO.out (K_one _ _) ?_))
      have e := HU.out
      subst e
      refine bodyPost_ret (v := .agg (K .u64 (pmTo vs 8))) (results_cell_row (P := Tryd.prog) Tryd.results9 _ _ (B + 1) 23 (K .u64 (pmTo vs 8)) (0, 0) _ (by rfl) (setRow_heap _ _ _ _ _ _ N1.out) Tryd.underlying23 rfl HI.out) rfl ?_
      exact ⟨rfl, below_setRow NB.out (by omega)⟩
end LW
end Go.Proofs.YtkgemkfajkcgcaaDoor
