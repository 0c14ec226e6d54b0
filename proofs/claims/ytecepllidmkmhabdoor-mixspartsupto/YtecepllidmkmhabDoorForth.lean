/-
  What the call forth gives: a round of eight steps.
-/
import Derived.Test.YtecepllidmkmhabDoorFours
import Derived.Test.YtecepllidmkmhabDoorOrder
namespace Go.Proofs.YtecepllidmkmhabDoor
open Go.RowKit
set_option linter.unusedVariables false
set_option linter.unusedSimpArgs false
namespace MX
open Turn
attribute [local go_sem ↓] Go.wp_at_zero Go.wp_at_succ
theorem ex4 (i : Nat) (hi : i < 8) : (K .u8 plL).extract (i * 4) (i * 4 + 4) = #[.int .u8 (pl i 0), .int .u8 (pl i 1), .int .u8 (pl i 2), .int .u8 (pl i 3)] := by
  have : i = 0 ∨ i = 1 ∨ i = 2 ∨ i = 3 ∨ i = 4 ∨ i = 5 ∨ i = 6 ∨ i = 7 := by omega
  rcases this with rfl | rfl | rfl | rfl | rfl | rfl | rfl | rfl <;> rfl
set_option maxRecDepth 100000 in
set_option maxHeartbeats 4000000 in
theorem forth (vs ms : List Int) (n : Nat) (w : World) (hv : vs.length = 16) (hm : ms.length = 16) (hV : Ws vs) (hM : Ws ms) (hn : n < 10) (ht : Tab w 1 .u8 ordL) :
    Calls Tryd.prog 28 #[.agg (K .u32 vs), .agg (K .u32 ms), .int .i64 n] w fun e w' => e = .returned (.agg (K .u32 (forthL vs ms n))) ∧ Below w.heap.size w w' := by
  have hr10 : n < 10 := hn
  unfold forthL
  rw [show n % 10 = n by omega]
  have hb := ((((Below.refl w.heap.size w).alloc (Nat.le_refl _) (.cells (K .u32 vs) 34)).alloc (by simp; try omega) (.cells (K .u32 ms) 34)).alloc (by simp; try omega) (.cells (K .u32 (List.replicate 16 0)) 34))
  have n0 := (blk_alloc (o' := .cells (K .u32 (List.replicate 16 0)) 34) (blk_alloc (o' := .cells (K .u32 ms) 34) (heap_new w (.cells (K .u32 vs) 34))))
  have n1 := (blk_alloc (o' := .cells (K .u32 (List.replicate 16 0)) 34) (heap_new (w.alloc (.cells (K .u32 vs) 34)) (.cells (K .u32 ms) 34)))
  rw [show (w.alloc (.cells (K .u32 vs) 34)).heap.size = w.heap.size + 1 by simp] at n1
  have n2 := (heap_new ((w.alloc (.cells (K .u32 vs) 34)).alloc (.cells (K .u32 ms) 34)) (.cells (K .u32 (List.replicate 16 0)) 34))
  rw [show ((w.alloc (.cells (K .u32 vs) 34)).alloc (.cells (K .u32 ms) 34)).heap.size = w.heap.size + 1 + 1 by simp] at n2
  go_enter Tryd.func28, Tryd.ntmps28
  refine wp_seq_k fun K hK => ?_
  have HK := TW.hide hK
  clear hK
  go_wp2
  refine HK.out _ _ ?_
  clear HK K
  change Code.wp _ _ _ _ (((w.alloc (.cells (K .u32 vs) 34)).alloc (.cells (K .u32 ms) 34)).alloc (.cells (K .u32 (List.replicate 16 0)) 34))
  generalize hWW : ((w.alloc (.cells (K .u32 vs) 34)).alloc (.cells (K .u32 ms) 34)).alloc (.cells (K .u32 (List.replicate 16 0)) 34) = W at hb n0 n1 n2 ⊢
  have hW : W.heap.size = w.heap.size + 1 + 1 + 1 := by rw [← hWW]; simp
  clear hWW
  have hsg := sigma (n : Int) W (ht.below hb)
  rw [show ((n : Int) % 10).toNat = n by omega] at hsg
  have hpl := fun X => places X
  have hlen := ord_length n hr10
  have hi := (show (Tryd.prog.info? 71).map (·.size) = some (K .i64 (ord n)).size by rw [K_size, hlen]; kernel_rfl)
  have hh := (show (#[.int .i64 0, .int .i64 0, .int .i64 0, .int .i64 0, .int .i64 0, .int .i64 0, .int .i64 0, .int .i64 0, .int .i64 0, .int .i64 0, .int .i64 0, .int .i64 0, .int .i64 0, .int .i64 0, .int .i64 0, .int .i64 0] : Array Value).size = (K .i64 (ord n)).size by rw [K_size, hlen]; rfl)
  generalize hB : w.heap.size = B at *
  have HSG := TW.hide hsg
  have HPL := TW.hide hpl
  have HL := TW.hide hlen
  have HI := TW.hide hi
  have HH := TW.hide hh
  have H0 := TW.hide n0
  have H1 := TW.hide n1
  have H2 := TW.hide n2
  have HB := TW.hide hb
  clear hsg hpl hlen hi hh n0 n1 n2 hb
  clear ht hB
  refine wp_seq_k fun KK hK => ?_
  have HK := TW.hide hK
  clear hK
  go_wp2_with fail
  refine (HSG.out).mono ?_
  rintro e w1 ⟨rfl, hb1⟩
  have M0 := TW.hide (blk_keep H0.out hb1)
  have M1 := TW.hide (blk_keep H1.out hb1)
  have M2 := TW.hide (blk_keep H2.out hb1)
  have MB : Hid (Below B w w1) := below_row HB.out hb1 (by omega)
  have hwo : B + 1 + 1 < w1.heap.size := by have := blk_lt M2.out; omega
  clear hb1 H0 H1 H2 HB
  go_wp2_with (first | (refine wpList_store_row (by rfl) 71 _ _ (by rfl) w1.heap.size (K .i64 (ord n)) (by rfl) (by rfl) 71 _ (heap_new w1 _) HI.out HH.out (K_one _ _) ?_))
  have nO := setRow_heap _ _ _ (K .i64 (ord n)) _ _ (heap_new w1 (.cells #[.int .i64 0, .int .i64 0, .int .i64 0, .int .i64 0, .int .i64 0, .int .i64 0, .int .i64 0, .int .i64 0, .int .i64 0, .int .i64 0, .int .i64 0, .int .i64 0, .int .i64 0, .int .i64 0, .int .i64 0, .int .i64 0] 71))
  have bO := below_setRow (cs := (K .i64 (ord n))) ((Below.refl w1.heap.size w1).alloc (Nat.le_refl _) (.cells #[.int .i64 0, .int .i64 0, .int .i64 0, .int .i64 0, .int .i64 0, .int .i64 0, .int .i64 0, .int .i64 0, .int .i64 0, .int .i64 0, .int .i64 0, .int .i64 0, .int .i64 0, .int .i64 0, .int .i64 0, .int .i64 0] 71)) (g := w1.heap.size) (Nat.le_refl _)
  generalize (w1.alloc (.cells #[.int .i64 0, .int .i64 0, .int .i64 0, .int .i64 0, .int .i64 0, .int .i64 0, .int .i64 0, .int .i64 0, .int .i64 0, .int .i64 0, .int .i64 0, .int .i64 0, .int .i64 0, .int .i64 0, .int .i64 0, .int .i64 0] 71)).setRow w1.heap.size (K .i64 (ord n)) = X1 at nO bO ⊢
  refine HK.out _ _ ?_
  clear HK KK
  have L0 := TW.hide (blk_keep M0.out bO)
  have L1 := TW.hide (blk_keep M1.out bO)
  have L2 := TW.hide (blk_keep M2.out bO)
  have L3 := TW.hide nO
  have LB : Hid (Below B w X1) := below_row MB.out bO (by omega)
  clear bO nO M0 M1 M2 MB
  generalize w1.heap.size = o at *
  clear hW HSG
  go_wp2_with (first | (go_at_call 41; refine (HPL.out _).mono ?_))
  rintro e w2 ⟨rfl, hb2⟩
  have M0 := TW.hide (blk_keep L0.out hb2)
  have M1 := TW.hide (blk_keep L1.out hb2)
  have M2 := TW.hide (blk_keep L2.out hb2)
  have M3 := TW.hide (blk_keep L3.out hb2)
  have MB : Hid (Below B w w2) := below_row LB.out hb2 (by have := blk_lt L3.out; omega)
  clear hb2 L0 L1 L2 L3 LB HPL
  go_wp2_with fail
  go_loopw [15] (fun i wr => ∃ k : Nat, k ≤ 8 ∧ i = .int .i64 k ∧ wr.heap[B]? = some (.cells (K .u32 (forthTo vs ms (ord n) k)) 34 (0, 0)) ∧ wr.heap[B + 1]? = some (.cells (K .u32 ms) 34 (0, 0)) ∧ wr.heap[B + 1 + 1]? = some (.cells (K .u32 (List.replicate 16 0)) 34 (0, 0)) ∧ wr.heap[o]? = some (.cells (K .i64 (ord n)) 71 (0, 0)) ∧ Below B w wr) (fun i _ => 8 - (intOf i).toNat)
  case atStart => exact ⟨0, Nat.zero_le _, rfl, M0.out, M1.out, M2.out, M3.out, MB.out⟩
  case round =>
    obtain ⟨k, hk, rfl, n0, n1, n2, n3, hb⟩ := hrel
    clear M0 M1 M2 M3 MB
    by_cases hlt : k < 8
    · have hx : ∀ Y, (Instr.index 74 (.agg (K .u8 plL)) (.int .i64 (k : Int))).run Tryd.prog Y = .ok (.agg #[.int .u8 (pl k 0), .int .u8 (pl k 1), .int .u8 (pl k 2), .int .u8 (pl k 3)]) Y := fun Y => by
        rw [← ex4 k hlt]; exact run_index_part 74 73 8 4 _ _ k Y Tryd.underlying74 Tryd.underlying73 rfl (by kernel_rfl) hlt
      obtain ⟨a0, a1, a2, a3, d1, d2, d3, d4, d5, d6, _⟩ := pl_all k hlt
      have hst : forthTo vs ms (ord n) (k + 1) = G4 (forthTo vs ms (ord n) k) (pl k 0) (pl k 1) (pl k 2) (pl k 3) (ms.getD ((ord n).getD (2 * k) 0).toNat 0) (ms.getD ((ord n).getD (2 * k + 1) 0).toNat 0) := rfl
      have hfl : (forthTo vs ms (ord n) k).length = 16 := by rw [forthTo_length, hv]
      have hfw : Ws (forthTo vs ms (ord n) k) := forthTo_Ws ms (ord n) k hV
      obtain ⟨hs0, hs0'⟩ := ord_bd n (2 * k) hr10 (by omega)
      obtain ⟨hs1, hs1'⟩ := ord_bd n (2 * k + 1) hr10 (by omega)
      have ho0 := blk_cellK n3 (i := 2 * k) (by rw [HL.out]; omega)
      have ho1 := blk_cellK n3 (i := 2 * k + 1) (by rw [HL.out]; omega)
      generalize (ord n).getD (2 * k) 0 = t0 at *
      generalize (ord n).getD (2 * k + 1) 0 = t1 at *
      obtain ⟨s0, rfl⟩ := Int.eq_ofNat_of_zero_le hs0
      obtain ⟨s1, rfl⟩ := Int.eq_ofNat_of_zero_le hs1
      rw [Int.toNat_natCast, Int.toNat_natCast] at hst
      have hm0 := blk_cellK n1 (i := s0) (by omega)
      have hm1 := blk_cellK n1 (i := s1) (by omega)
      have hwx := hM.get s0
      have hwy := hM.get s1
      generalize ms.getD s0 0 = x at *
      generalize ms.getD s1 0 = y at *
      generalize hU1 : forthTo vs ms (ord n) (k + 1) = us' at *
      have HU1 := TW.hide hU1
      clear hU1
      generalize forthTo vs ms (ord n) k = us at *
      generalize pl k 0 = p0 at *
      generalize pl k 1 = p1 at *
      generalize pl k 2 = p2 at *
      generalize pl k 3 = p3 at *
      have HST := TW.hide hst
      have HFL := TW.hide hfl
      have HFW := TW.hide hfw
      have HX := TW.hide hwx
      have HY := TW.hide hwy
      have N0 := TW.hide n0
      have N1 := TW.hide n1
      have N2 := TW.hide n2
      have N3 := TW.hide n3
      have NB := TW.hide hb
      have O0 := TW.hide ho0
      have O1 := TW.hide ho1
      have Q0 := TW.hide hm0
      have Q1 := TW.hide hm1
      clear hst hfl hfw hwx hwy n0 n1 n2 n3 hb ho0 ho1 hm0 hm1
      go_wp2
      have bX := (Below.refl wr.heap.size wr).alloc (Nat.le_refl _) (.cells #[.int .u8 p0, .int .u8 p1, .int .u8 p2, .int .u8 p3]  73)
      have nX := heap_new wr (.cells #[.int .u8 p0, .int .u8 p1, .int .u8 p2, .int .u8 p3]  73)
      generalize wr.alloc (.cells #[.int .u8 p0, .int .u8 p1, .int .u8 p2, .int .u8 p3]  73) = X at bX nX ⊢
      generalize Value.agg #[.int .u8 p0, .int .u8 p1, .int .u8 p2, .int .u8 p3] = V20
      generalize hV16 : Value.agg (K .u8 plL) = V16 at *
      have HV16 := TW.hide hV16
      clear hV16
      generalize hV15 : Value.agg (K .i64 (ord n)) = V15
      have HV15 := TW.hide hV15
      clear hV15
      generalize hV0 : Value.agg (K .u32 vs) = V0
      have HV0 := TW.hide hV0
      clear hV0
      generalize hV1 : Value.agg (K .u32 ms) = V1
      have HV1 := TW.hide hV1
      clear hV1
      have o0 := blk_keep N3.out bX
      have q0 : X.cell? ⟨o, 2 * k, none⟩ = some (.int .i64 (s0 : Int)) := by rw [bX.cell (blk_lt N3.out)]; exact O0.out
      have q1 : X.cell? ⟨o, 2 * k + 1, none⟩ = some (.int .i64 (s1 : Int)) := by rw [bX.cell (blk_lt N3.out)]; exact O1.out
      have q2 : X.cell? ⟨B + 1, s0, none⟩ = some (.int .u32 x) := by rw [bX.cell (blk_lt N1.out)]; exact Q0.out
      have q3 : X.cell? ⟨B + 1, s1, none⟩ = some (.int .u32 y) := by rw [bX.cell (blk_lt N1.out)]; exact Q1.out
      have i0 : (0 : Int) ≤ 2 * (k : Int) := by omega
      have i1 : 2 * (k : Int) < 16 := by omega
      have i2 : (0 : Int) ≤ 2 * (k : Int) + 1 := by omega
      have i3 : 2 * (k : Int) + 1 < 16 := by omega
      have BX := TW.hide bX
      have NX := TW.hide nX
      clear bX nX o0 hx
      go_quiet (fail)
      go_wp2
      have hY : (X.drewN nq).heap = X.heap := rfl
      have nP := NX.out
      have nV := blk_keep N0.out BX.out
      have hc0 := blk_cellK nV (i := p0) (by rw [HFL.out]; exact a0)
      have hc1 := blk_cellK nV (i := p1) (by rw [HFL.out]; exact a1)
      have hc2 := blk_cellK nV (i := p2) (by rw [HFL.out]; exact a2)
      have hc3 := blk_cellK nV (i := p3) (by rw [HFL.out]; exact a3)
      have j0 : (p0 : Int) < 16 := by omega
      have j1 : (p1 : Int) < 16 := by omega
      have j2 : (p2 : Int) < 16 := by omega
      have j3 : (p3 : Int) < 16 := by omega
      have hmix := fun W => mix (us.getD p0 0) (us.getD p1 0) (us.getD p2 0) (us.getD p3 0) x y W (HFW.out.get _) (HFW.out.get _) (HFW.out.get _) (HFW.out.get _) HX.out HY.out
      generalize hVa : us.getD p0 0 = va at *
      have HVA := TW.hide hVa
      clear hVa
      generalize hVb : us.getD p1 0 = vb at *
      have HVB := TW.hide hVb
      clear hVb
      generalize hVc : us.getD p2 0 = vc at *
      have HVC := TW.hide hVc
      clear hVc
      generalize hVd : us.getD p3 0 = vd at *
      have HVD := TW.hide hVd
      clear hVd
      have hst2 : us' = put4 us p0 p1 p2 p3 (mixL va vb vc vd x y) := by rw [HST.out]; unfold G4; rw [← HVA.out, ← HVB.out, ← HVC.out, ← HVD.out]
      generalize mixL va vb vc vd x y = q at *
      obtain ⟨r0, r1, r2, r3⟩ := q
      simp only [put4] at hmix hst2
      have HST2 := TW.hide hst2
      have HMIX := TW.hide hmix
      clear hst2
      have hT0 : ∀ Z : World, Z.heap = X.heap → Z.cell? ⟨wr.heap.size, 0, none⟩ = some (.int .u8 p0) ∧ Z.cell? ⟨wr.heap.size, 1, none⟩ = some (.int .u8 p1) ∧ Z.cell? ⟨wr.heap.size, 2, none⟩ = some (.int .u8 p2) ∧ Z.cell? ⟨wr.heap.size, 3, none⟩ = some (.int .u8 p3) := fun Z hZ => by
        simp only [World.cell?, hZ, nP]
        exact ⟨rfl, rfl, rfl, rfl⟩
      have hS0 : ∀ Z : World, Z.heap = X.heap → Z.cell? ⟨B, p0, none⟩ = some (.int .u32 va) ∧ Z.cell? ⟨B, p1, none⟩ = some (.int .u32 vb) ∧ Z.cell? ⟨B, p2, none⟩ = some (.int .u32 vc) ∧ Z.cell? ⟨B, p3, none⟩ = some (.int .u32 vd) := fun Z hZ => by
        simp only [World.cell?, hZ] at hc0 hc1 hc2 hc3 ⊢
        exact ⟨hc0, hc1, hc2, hc3⟩
      have HS0 := TW.hide hS0
      have HT0 := TW.hide hT0
      have NP := TW.hide nP
      have NV := TW.hide nV
      generalize hG : wr.heap.size = g at *
      have HG := TW.hide hG
      have hgB : o < g := by have := blk_lt N3.out; omega
      clear hmix q0 q1 q2 q3 i0 i1 i2 i3 hS0 hT0 hc0 hc1 hc2 hc3 nP nV hY hG
      refine wp_region_noPanic ?_
      refine RG.wp_region_L (fun Z => Z.cell? ⟨B, p0, none⟩ = some (.int .u32 va) ∧ Z.cell? ⟨B, p1, none⟩ = some (.int .u32 vb) ∧ Z.cell? ⟨B, p2, none⟩ = some (.int .u32 vc) ∧ Z.cell? ⟨B, p3, none⟩ = some (.int .u32 vd))
        (fun Z => Z.cell? ⟨g, 0, none⟩ = some (.int .u8 p0) ∧ Z.cell? ⟨g, 1, none⟩ = some (.int .u8 p1) ∧ Z.cell? ⟨g, 2, none⟩ = some (.int .u8 p2) ∧ Z.cell? ⟨g, 3, none⟩ = some (.int .u8 p3)) [33, 35, 37, 39] (by kernel_rfl) ?_
      refine RG.wpL_take (fuel := 14) (a' := ?A) [0, 1, 2, 3, 4, 5, 6, 7, 8, 9, 10, 11, 12, 13, 14, 15, 16, 17, 18, 19, 20, 21, 22, 23, 24, 25] (by kernel_rfl) (by kernel_rfl) (fun _ _ _ _ _ h => h) (HT0.out _ rfl) (fun _ => HS0.out _ rfl) ?r ?_
      case r =>
        iterate 11
          refine RG.RunsIf.weak (v := ?_) (by rfl) (by rfl) (fun Z hT => ?_) ?_
          rotate_left
          · go_simp
            rfl
          simp only [Act.put, List.setIfInBounds_toArray, List.set_cons_zero, List.set_cons_succ]
        iterate 1
          refine RG.RunsIf.strong (v := ?_) (by rfl) (by kernel_rfl) (by rfl) (fun Z hT hS => ?_) ?_
          rotate_left
          · go_simp
            rfl
          simp only [Act.put, List.setIfInBounds_toArray, List.set_cons_zero, List.set_cons_succ]
        iterate 3
          refine RG.RunsIf.weak (v := ?_) (by rfl) (by rfl) (fun Z hT => ?_) ?_
          rotate_left
          · go_simp
            rfl
          simp only [Act.put, List.setIfInBounds_toArray, List.set_cons_zero, List.set_cons_succ]
        iterate 1
          refine RG.RunsIf.strong (v := ?_) (by rfl) (by kernel_rfl) (by rfl) (fun Z hT hS => ?_) ?_
          rotate_left
          · go_simp
            rfl
          simp only [Act.put, List.setIfInBounds_toArray, List.set_cons_zero, List.set_cons_succ]
        iterate 3
          refine RG.RunsIf.weak (v := ?_) (by rfl) (by rfl) (fun Z hT => ?_) ?_
          rotate_left
          · go_simp
            rfl
          simp only [Act.put, List.setIfInBounds_toArray, List.set_cons_zero, List.set_cons_succ]
        iterate 1
          refine RG.RunsIf.strong (v := ?_) (by rfl) (by kernel_rfl) (by rfl) (fun Z hT hS => ?_) ?_
          rotate_left
          · go_simp
            rfl
          simp only [Act.put, List.setIfInBounds_toArray, List.set_cons_zero, List.set_cons_succ]
        iterate 3
          refine RG.RunsIf.weak (v := ?_) (by rfl) (by rfl) (fun Z hT => ?_) ?_
          rotate_left
          · go_simp
            rfl
          simp only [Act.put, List.setIfInBounds_toArray, List.set_cons_zero, List.set_cons_succ]
        iterate 1
          refine RG.RunsIf.strong (v := ?_) (by rfl) (by kernel_rfl) (by rfl) (fun Z hT hS => ?_) ?_
          rotate_left
          · go_simp
            rfl
          simp only [Act.put, List.setIfInBounds_toArray, List.set_cons_zero, List.set_cons_succ]
        iterate 2
          refine RG.RunsIf.weak (v := ?_) (by rfl) (by rfl) (fun Z hT => ?_) ?_
          rotate_left
          · go_simp
            rfl
          simp only [Act.put, List.setIfInBounds_toArray, List.set_cons_zero, List.set_cons_succ]
        exact RG.RunsIf.nil
      refine RG.wpL_step (i := 26) (by kernel_rfl) (by rfl) (by rfl) (fun K hK => ?_)
      have HK := TW.hide hK
      clear hK
      go_simp
      refine (HMIX.out _).mono ?_
      rintro e w' ⟨rfl, rfl⟩
      refine HK.out _ _ (HT0.out _ rfl) (fun _ => HS0.out _ rfl) ?_
      clear HK K
      refine RG.wpL_take (fuel := 7) (a' := ?A2) [27, 28, 29, 30, 31, 32] (by kernel_rfl) (by kernel_rfl) (fun _ _ _ _ _ h => h) (HT0.out _ rfl) (fun _ => HS0.out _ rfl) ?r2 ?_
      case r2 =>
        iterate 6
          refine RG.RunsIf.weak (v := ?_) (by rfl) (by rfl) (fun Z hT => ?_) ?_
          rotate_left
          · go_simp
            rfl
          simp only [Act.put, List.setIfInBounds_toArray, List.set_cons_zero, List.set_cons_succ]
        exact RG.RunsIf.nil
      have HTB : Hid (∀ Z : World, Z.heap[g]? = some (.cells #[.int .u8 p0, .int .u8 p1, .int .u8 p2, .int .u8 p3]  73 (0, 0)) → Z.cell? ⟨g, 0, none⟩ = some (.int .u8 p0) ∧ Z.cell? ⟨g, 1, none⟩ = some (.int .u8 p1) ∧ Z.cell? ⟨g, 2, none⟩ = some (.int .u8 p2) ∧ Z.cell? ⟨g, 3, none⟩ = some (.int .u8 p3)) :=
        fun Z h => ⟨blk_cell h (i := 0) rfl, blk_cell h (i := 1) rfl, blk_cell h (i := 2) rfl, blk_cell h (i := 3) rfl⟩
      have NB0 : Hid (Below B w (X.drewN (nq + 1))) := below_drewN (below_row NB.out (HG.out ▸ BX.out) (by have := HG.out; omega)) _
      have NV0 : Hid ((X.drewN (nq + 1)).heap[B]? = some (.cells (K .u32 us) 34 (0, 0))) := NV.out
      have NP0 : Hid ((X.drewN (nq + 1)).heap[g]? = some (.cells #[.int .u8 p0, .int .u8 p1, .int .u8 p2, .int .u8 p3]  73 (0, 0))) := NP.out
      have NA0 : Hid ((X.drewN (nq + 1)).heap[B + 1]? = some (.cells (K .u32 ms) 34 (0, 0))) := blk_drewN (blk_keep N1.out (HG.out ▸ BX.out)) _
      have NC0 : Hid ((X.drewN (nq + 1)).heap[B + 1 + 1]? = some (.cells (K .u32 (List.replicate 16 0)) 34 (0, 0))) := blk_drewN (blk_keep N2.out (HG.out ▸ BX.out)) _
      have ND0 : Hid ((X.drewN (nq + 1)).heap[o]? = some (.cells (K .i64 (ord n)) 71 (0, 0))) := blk_drewN (blk_keep N3.out (HG.out ▸ BX.out)) _
      clear HT0 HS0 N0 N1 N2 N3 NB BX NX NP NV O0 O1 Q0 Q1
      generalize X.drewN (nq + 1) = Y0 at *
      have c0 := blk_cellK NV0.out (i := p0) (by (try simp only [List.length_set]); rw [HFL.out]; exact a0)
      have f0 := blk_frozen NV0.out (i := p0)
      refine RG.wpL_late (i := 33) (by kernel_rfl) (by rfl) (by rfl) (by kernel_rfl) (fun K hK => ?_)
      have HK := TW.hide hK
      clear hK
      go_simp
      have NV1 := TW.hide (blk_setK (i := p0) (x := r0) NV0.out)
      have NP1 := TW.hide (blk_other (p := B) (o := p0) (u := .int .u32 r0) NP0.out (by omega))
      have NB1 := TW.hide (NB0.out.setCell (p := ⟨B, p0, none⟩) (Nat.le_refl B) (.int .u32 r0))
      have NA1 := TW.hide (blk_other (p := B) (o := p0) (u := .int .u32 r0) NA0.out (by omega))
      have NC1 := TW.hide (blk_other (p := B) (o := p0) (u := .int .u32 r0) NC0.out (by omega))
      have ND1 := TW.hide (blk_other (p := B) (o := p0) (u := .int .u32 r0) ND0.out (by omega))
      refine HK.out _ _ (HTB.out _ NP1.out) ?_
      clear HK K c0 f0 NV0 NP0 NB0 NA0 NC0 ND0
      generalize Y0.setCell ⟨B, p0, none⟩ (.int .u32 r0) = Y1 at *
      refine RG.wpL_late (i := 34) (by kernel_rfl) (by rfl) (by rfl) (by kernel_rfl) (fun K hK => ?_)
      have HK := TW.hide hK
      clear hK
      go_simp
      refine HK.out _ _ (HTB.out _ NP1.out) ?_
      clear HK K
      have c1 := blk_cellK NV1.out (i := p1) (by (try simp only [List.length_set]); rw [HFL.out]; exact a1)
      have f1 := blk_frozen NV1.out (i := p1)
      refine RG.wpL_late (i := 35) (by kernel_rfl) (by rfl) (by rfl) (by kernel_rfl) (fun K hK => ?_)
      have HK := TW.hide hK
      clear hK
      go_simp
      have NV2 := TW.hide (blk_setK (i := p1) (x := r1) NV1.out)
      have NP2 := TW.hide (blk_other (p := B) (o := p1) (u := .int .u32 r1) NP1.out (by omega))
      have NB2 := TW.hide (NB1.out.setCell (p := ⟨B, p1, none⟩) (Nat.le_refl B) (.int .u32 r1))
      have NA2 := TW.hide (blk_other (p := B) (o := p1) (u := .int .u32 r1) NA1.out (by omega))
      have NC2 := TW.hide (blk_other (p := B) (o := p1) (u := .int .u32 r1) NC1.out (by omega))
      have ND2 := TW.hide (blk_other (p := B) (o := p1) (u := .int .u32 r1) ND1.out (by omega))
      refine HK.out _ _ (HTB.out _ NP2.out) ?_
      clear HK K c1 f1 NV1 NP1 NB1 NA1 NC1 ND1
      generalize Y1.setCell ⟨B, p1, none⟩ (.int .u32 r1) = Y2 at *
      refine RG.wpL_late (i := 36) (by kernel_rfl) (by rfl) (by rfl) (by kernel_rfl) (fun K hK => ?_)
      have HK := TW.hide hK
      clear hK
      go_simp
      refine HK.out _ _ (HTB.out _ NP2.out) ?_
      clear HK K
      have c2 := blk_cellK NV2.out (i := p2) (by (try simp only [List.length_set]); rw [HFL.out]; exact a2)
      have f2 := blk_frozen NV2.out (i := p2)
      refine RG.wpL_late (i := 37) (by kernel_rfl) (by rfl) (by rfl) (by kernel_rfl) (fun K hK => ?_)
      have HK := TW.hide hK
      clear hK
      go_simp
      have NV3 := TW.hide (blk_setK (i := p2) (x := r2) NV2.out)
      have NP3 := TW.hide (blk_other (p := B) (o := p2) (u := .int .u32 r2) NP2.out (by omega))
      have NB3 := TW.hide (NB2.out.setCell (p := ⟨B, p2, none⟩) (Nat.le_refl B) (.int .u32 r2))
      have NA3 := TW.hide (blk_other (p := B) (o := p2) (u := .int .u32 r2) NA2.out (by omega))
      have NC3 := TW.hide (blk_other (p := B) (o := p2) (u := .int .u32 r2) NC2.out (by omega))
      have ND3 := TW.hide (blk_other (p := B) (o := p2) (u := .int .u32 r2) ND2.out (by omega))
      refine HK.out _ _ (HTB.out _ NP3.out) ?_
      clear HK K c2 f2 NV2 NP2 NB2 NA2 NC2 ND2
      generalize Y2.setCell ⟨B, p2, none⟩ (.int .u32 r2) = Y3 at *
      refine RG.wpL_late (i := 38) (by kernel_rfl) (by rfl) (by rfl) (by kernel_rfl) (fun K hK => ?_)
      have HK := TW.hide hK
      clear hK
      go_simp
      refine HK.out _ _ (HTB.out _ NP3.out) ?_
      clear HK K
      have c3 := blk_cellK NV3.out (i := p3) (by (try simp only [List.length_set]); rw [HFL.out]; exact a3)
      have f3 := blk_frozen NV3.out (i := p3)
      refine RG.wpL_late (i := 39) (by kernel_rfl) (by rfl) (by rfl) (by kernel_rfl) (fun K hK => ?_)
      have HK := TW.hide hK
      clear hK
      go_simp
      have NV4 := TW.hide (blk_setK (i := p3) (x := r3) NV3.out)
      have NP4 := TW.hide (blk_other (p := B) (o := p3) (u := .int .u32 r3) NP3.out (by omega))
      have NB4 := TW.hide (NB3.out.setCell (p := ⟨B, p3, none⟩) (Nat.le_refl B) (.int .u32 r3))
      have NA4 := TW.hide (blk_other (p := B) (o := p3) (u := .int .u32 r3) NA3.out (by omega))
      have NC4 := TW.hide (blk_other (p := B) (o := p3) (u := .int .u32 r3) NC3.out (by omega))
      have ND4 := TW.hide (blk_other (p := B) (o := p3) (u := .int .u32 r3) ND3.out (by omega))
      refine HK.out _ _ (HTB.out _ NP4.out) ?_
      clear HK K c3 f3 NV3 NP3 NB3 NA3 NC3 ND3
      generalize Y3.setCell ⟨B, p3, none⟩ (.int .u32 r3) = Y4 at *
      refine RG.wpL_done (by kernel_rfl) ?_ _
      refine NoPanic.normal ?_
      go_wp2
      have e0 := HV0.out
      have e1 := HV1.out
      have e2 := HV15.out
      have e3 := HV16.out
      subst e0 e1 e2 e3
      go_roundw
      case rel =>
        refine ⟨k + 1, by omega, by go_num, ?_, NA4.out, NC4.out, ND4.out, NB4.out⟩
        rw [HU1.out, HST2.out]
        exact NV4.out
      case measure => simp [intOf]; omega
    · obtain rfl : k = 8 := by omega
      have hfl : (forthTo vs ms (ord n) 8).length = 16 := by rw [forthTo_length, hv]
      have hi31 : (Tryd.prog.info? 34).map (·.size) = some (K .u32 (forthTo vs ms (ord n) 8)).size := by rw [K_size, hfl]; kernel_rfl
      have HO : Hid ((K .u32 (List.replicate 16 0)).size = (K .u32 (forthTo vs ms (ord n) 8)).size) := by show _ = _; rw [K_size, K_size, hfl]; rfl
      have HI := TW.hide hi31
      have N0 := TW.hide n0
      have N2 := TW.hide n2
      have NB := TW.hide hb
      clear n0 n1 n2 n3 hb hi31 hfl
      generalize hU : forthTo vs ms (ord n) 8 = us at *
      have HU := TW.hide hU
      clear hU
      go_wp2_with (first | (refine wpList_load_row (by rfl) 34 _ (by rfl) B (by rfl) 34 (K .u32 us) (0, 0) _ N0.out Tryd.underlying34 rfl HI.out ?_) | (refine wpList_store_row (by rfl) 34 _ _ (by rfl) (B + 1 + 1) (K .u32 us) (by rfl) (by rfl) 34 _ N2.out HI.out HO.out (K_one _ _) ?_))
      have e := HU.out
      subst e
      refine bodyPost_ret (v := .agg (K .u32 (forthTo vs ms (ord n) 8))) (results_cell_row (P := Tryd.prog) Tryd.results28 _ _ (B + 1 + 1) 34 (K .u32 (forthTo vs ms (ord n) 8)) (0, 0) _ (by rfl) (setRow_heap _ _ _ _ _ _ N2.out) Tryd.underlying34 rfl HI.out) rfl ?_
      exact ⟨rfl, below_setRow NB.out (by omega)⟩
end MX
end Go.Proofs.YtecepllidmkmhabDoor
