/-
  The program's Perm.
-/
import Derived.Test.YtkgemkfajkcgcaaDoorPermL
import Derived.Test.YtkgemkfajkcgcaaDoorEql
import Derived.Test.YtkgemkfajkcgcaaDoorOrder
namespace Go.Proofs.YtkgemkfajkcgcaaDoor
open Go.RowKit
set_option linter.unusedVariables false
set_option linter.unusedSimpArgs false
set_option maxRecDepth 100000
namespace LW
open Turn
attribute [local go_sem ↓] Go.wp_at_zero Go.wp_at_succ
set_option maxHeartbeats 4000000 in
theorem perm (vs : List Int) (w : World) (hv : vs.length = 16) (hV : Ws vs) (hp : Tab w 0 .u8 plL) :
    Calls Tryd.prog 8 #[.agg (K .u64 vs)] w fun e w' => e = .returned (.agg (K .u64 (pmL vs))) ∧ Below w.heap.size w w' := by
  unfold pmL
  have hb := (((Below.refl w.heap.size w).alloc (Nat.le_refl _) (.cells (K .u64 vs) 23)).alloc (by simp; try omega) (.cells (K .u64 (List.replicate 16 0)) 23))
  have n0 := (blk_alloc (o' := .cells (K .u64 (List.replicate 16 0)) 23) (heap_new w (.cells (K .u64 vs) 23)))
  have n1 := (heap_new (w.alloc (.cells (K .u64 vs) 23)) (.cells (K .u64 (List.replicate 16 0)) 23))
  rw [show (w.alloc (.cells (K .u64 vs) 23)).heap.size = w.heap.size + 1 by simp] at n1
  go_enter Tryd.func8, Tryd.ntmps8
  refine wp_seq_k fun K hK => ?_
  have HK := TW.hide hK
  clear hK
  go_wp2
  refine HK.out _ _ ?_
  clear HK K
  change Code.wp _ _ _ _ ((w.alloc (.cells (K .u64 vs) 23)).alloc (.cells (K .u64 (List.replicate 16 0)) 23))
  generalize hWW : (w.alloc (.cells (K .u64 vs) 23)).alloc (.cells (K .u64 (List.replicate 16 0)) 23) = W at hb n0 n1 ⊢
  have hW : W.heap.size = w.heap.size + 1 + 1 := by rw [← hWW]; simp
  clear hWW
  have HP : Hid (Tab W 0 .u8 plL) := hp.below hb
  generalize hB : w.heap.size = B at *
  have H0 := TW.hide n0
  have H1 := TW.hide n1
  have HB := TW.hide hb
  clear n0 n1 hb
  clear hp hB hW
  go_wp2_with (first | (refine wpList_load_mid (by rfl) 45 _ (by rfl) 0 0 (by rfl) (plL.map (Value.int .u8)) _ HP.out Tryd.underlying45 rfl (by kernel_rfl) ?_))
  go_loopw [6] (fun i wr => ∃ k : Nat, k ≤ 8 ∧ i = .int .i64 k ∧ wr.heap[B]? = some (.cells (K .u64 (pmTo vs k)) 23 (0, 0)) ∧ wr.heap[B + 1]? = some (.cells (K .u64 (List.replicate 16 0)) 23 (0, 0)) ∧ Below B w wr) (fun i _ => 8 - (intOf i).toNat)
  case atStart => exact ⟨0, Nat.zero_le _, rfl, H0.out, H1.out, HB.out⟩
  case round =>
    obtain ⟨k, hk, rfl, n0, n1, hb⟩ := hrel
    clear H0 H1 HB HP
    by_cases hlt : k < 8
    · have hx : ∀ Y, (Instr.index 45 (.agg (plL.map (Value.int .u8)).toArray) (.int .i64 (k : Int))).run Tryd.prog Y = .ok (.agg #[.int .u8 (pl k 0), .int .u8 (pl k 1), .int .u8 (pl k 2), .int .u8 (pl k 3)]) Y := fun Y => by
        rw [← ex4 k hlt]; exact run_index_part 45 44 8 4 _ _ k Y Tryd.underlying45 Tryd.underlying44 rfl (by kernel_rfl) hlt
      obtain ⟨a0, a1, a2, a3, d1, d2, d3, d4, d5, d6, _⟩ := pl_all k hlt
      have hst : pmTo vs (k + 1) = G4 (pmTo vs k) (pl k 0) (pl k 1) (pl k 2) (pl k 3) := rfl
      have hfl : (pmTo vs k).length = 16 := by rw [pmTo_length, hv]
      have hfw : Ws (pmTo vs k) := pmTo_Ws k hV
      generalize hU1 : pmTo vs (k + 1) = us' at *
      have HU1 := TW.hide hU1
      clear hU1
      generalize pmTo vs k = us at *
      generalize pl k 0 = p0 at *
      generalize pl k 1 = p1 at *
      generalize pl k 2 = p2 at *
      generalize pl k 3 = p3 at *
      have HST := TW.hide hst
      have HFL := TW.hide hfl
      have HFW := TW.hide hfw
      have N0 := TW.hide n0
      have N1 := TW.hide n1
      have NB := TW.hide hb
      clear hst hfl hfw n0 n1 hb
      have q1 : (k : Int) < 8 := by omega
      go_wp2
      have bX := (Below.refl wr.heap.size wr).alloc (Nat.le_refl _) (.cells #[.int .u8 p0, .int .u8 p1, .int .u8 p2, .int .u8 p3] 44)
      have nX := heap_new wr (.cells #[.int .u8 p0, .int .u8 p1, .int .u8 p2, .int .u8 p3] 44)
      generalize wr.alloc (.cells #[.int .u8 p0, .int .u8 p1, .int .u8 p2, .int .u8 p3] 44) = X at bX nX ⊢
      generalize Value.agg #[.int .u8 p0, .int .u8 p1, .int .u8 p2, .int .u8 p3] = V20
      generalize hV16 : Value.agg (plL.map (Value.int .u8)).toArray = V16 at *
      have HV16 := TW.hide hV16
      clear hV16
      generalize hV0 : Value.agg (K .u64 vs) = V0 at *
      have HV0 := TW.hide hV0
      clear hV0
      have NP := TW.hide nX
      have NV := TW.hide (blk_keep N0.out bX)
      have NA := TW.hide (blk_keep N1.out bX)
      have NBX : Hid (Below B w X) := below_row NB.out bX (by have := blk_lt N1.out; omega)
      have hgB : B + 1 < wr.heap.size := blk_lt N1.out
      generalize wr.heap.size = g at *
      clear nX bX hx
      have hc0 := blk_cellK NV.out (i := p0) (by rw [HFL.out]; exact a0)
      have hc1 := blk_cellK NV.out (i := p1) (by rw [HFL.out]; exact a1)
      have hc2 := blk_cellK NV.out (i := p2) (by rw [HFL.out]; exact a2)
      have hc3 := blk_cellK NV.out (i := p3) (by rw [HFL.out]; exact a3)
      have j0 : (p0 : Int) < 16 := by omega
      have j1 : (p1 : Int) < 16 := by omega
      have j2 : (p2 : Int) < 16 := by omega
      have j3 : (p3 : Int) < 16 := by omega
      have hmix := fun W => blend (us.getD p0 0) (us.getD p1 0) (us.getD p2 0) (us.getD p3 0) W (HFW.out.get _) (HFW.out.get _) (HFW.out.get _) (HFW.out.get _)
      generalize hVa : us.getD p0 0 = va at *
      have HVA := TW.hide hVa
      clear hVa
      generalize hVb : us.getD p1 0 = vb at *
      have HVB := TW.hide hVb
      clear hVb
      generalize hVc : us.getD p2 0 = vc at *
      have HVC := TW.hide hVc
      clear hVc
      generalize hVd : us.getD p3 0 = vd at *
      have HVD := TW.hide hVd
      clear hVd
      have hst2 : us' = put4 us p0 p1 p2 p3 (blL va vb vc vd) := by rw [HST.out]; unfold G4; rw [HVA.out, HVB.out, HVC.out, HVD.out]
      generalize blL va vb vc vd = q at *
      obtain ⟨r0, r1, r2, r3⟩ := q
      simp only [put4] at hmix hst2
      have HST2 := TW.hide hst2
      have HMIX := TW.hide hmix
      have HT0 : Hid (∀ Z : World, Z.heap = X.heap → Z.cell? ⟨g, 0, none⟩ = some (.int .u8 p0) ∧ Z.cell? ⟨g, 1, none⟩ = some (.int .u8 p1) ∧ Z.cell? ⟨g, 2, none⟩ = some (.int .u8 p2) ∧ Z.cell? ⟨g, 3, none⟩ = some (.int .u8 p3)) := fun Z hZ => by
        simp only [World.cell?, hZ, NP.out]
        exact ⟨rfl, rfl, rfl, rfl⟩
      have HS0 : Hid (∀ Z : World, Z.heap = X.heap → Z.cell? ⟨B, p0, none⟩ = some (.int .u64 va) ∧ Z.cell? ⟨B, p1, none⟩ = some (.int .u64 vb) ∧ Z.cell? ⟨B, p2, none⟩ = some (.int .u64 vc) ∧ Z.cell? ⟨B, p3, none⟩ = some (.int .u64 vd)) := fun Z hZ => by
        simp only [World.cell?, hZ] at hc0 hc1 hc2 hc3 ⊢
        exact ⟨hc0, hc1, hc2, hc3⟩
      clear hst2 hmix hc0 hc1 hc2 hc3
      refine wp_region_noPanic ?_
      refine RG.wp_region_L (fun Z => Z.cell? ⟨B, p0, none⟩ = some (.int .u64 va) ∧ Z.cell? ⟨B, p1, none⟩ = some (.int .u64 vb) ∧ Z.cell? ⟨B, p2, none⟩ = some (.int .u64 vc) ∧ Z.cell? ⟨B, p3, none⟩ = some (.int .u64 vd))
        (fun Z => Z.cell? ⟨g, 0, none⟩ = some (.int .u8 p0) ∧ Z.cell? ⟨g, 1, none⟩ = some (.int .u8 p1) ∧ Z.cell? ⟨g, 2, none⟩ = some (.int .u8 p2) ∧ Z.cell? ⟨g, 3, none⟩ = some (.int .u8 p3)) [31, 33, 35, 37] (by kernel_rfl) ?_
      refine RG.wpL_any fun Y0 hY => ?_
      have NB0 : Hid (Below B w Y0) := by rw [hY]; exact below_drewN NBX.out 1
      have hYh : Y0.heap = X.heap := by rw [hY]; rfl
      clear hY
      refine RG.wpL_take (fuel := 14) (a' := ?A) [0, 1, 2, 3, 4, 5, 6, 7, 8, 9, 10, 11, 12, 13, 14, 15, 16, 17, 18, 19, 20, 21, 22, 23] (by kernel_rfl) (by kernel_rfl) (fun _ _ _ _ _ h => h) (HT0.out _ hYh) (fun _ => HS0.out _ hYh) ?r ?_
      case r =>
        iterate 11
          refine RG.RunsIf.weak (v := ?_) (by rfl) (by rfl) (fun Z hT => ?_) ?_
          rotate_left
          · go_simp
            rfl
          simp only [Act.put, List.setIfInBounds_toArray, List.set_cons_zero, List.set_cons_succ]
        iterate 1
          refine RG.RunsIf.strong (v := ?_) (by rfl) (by kernel_rfl) (by rfl) (fun Z hT hS => ?_) ?_
          rotate_left
          · go_simp
            rfl
          simp only [Act.put, List.setIfInBounds_toArray, List.set_cons_zero, List.set_cons_succ]
        iterate 3
          refine RG.RunsIf.weak (v := ?_) (by rfl) (by rfl) (fun Z hT => ?_) ?_
          rotate_left
          · go_simp
            rfl
          simp only [Act.put, List.setIfInBounds_toArray, List.set_cons_zero, List.set_cons_succ]
        iterate 1
          refine RG.RunsIf.strong (v := ?_) (by rfl) (by kernel_rfl) (by rfl) (fun Z hT hS => ?_) ?_
          rotate_left
          · go_simp
            rfl
          simp only [Act.put, List.setIfInBounds_toArray, List.set_cons_zero, List.set_cons_succ]
        iterate 3
          refine RG.RunsIf.weak (v := ?_) (by rfl) (by rfl) (fun Z hT => ?_) ?_
          rotate_left
          · go_simp
            rfl
          simp only [Act.put, List.setIfInBounds_toArray, List.set_cons_zero, List.set_cons_succ]
        iterate 1
          refine RG.RunsIf.strong (v := ?_) (by rfl) (by kernel_rfl) (by rfl) (fun Z hT hS => ?_) ?_
          rotate_left
          · go_simp
            rfl
          simp only [Act.put, List.setIfInBounds_toArray, List.set_cons_zero, List.set_cons_succ]
        iterate 3
          refine RG.RunsIf.weak (v := ?_) (by rfl) (by rfl) (fun Z hT => ?_) ?_
          rotate_left
          · go_simp
            rfl
          simp only [Act.put, List.setIfInBounds_toArray, List.set_cons_zero, List.set_cons_succ]
        iterate 1
          refine RG.RunsIf.strong (v := ?_) (by rfl) (by kernel_rfl) (by rfl) (fun Z hT hS => ?_) ?_
          rotate_left
          · go_simp
            rfl
          simp only [Act.put, List.setIfInBounds_toArray, List.set_cons_zero, List.set_cons_succ]
        exact RG.RunsIf.nil
      refine RG.wpL_step (i := 24) (by kernel_rfl) (by rfl) (by rfl) (fun K hK => ?_)
      have HK := TW.hide hK
      clear hK
      go_simp
      refine (HMIX.out _).mono ?_
      rintro e w' ⟨rfl, rfl⟩
      refine HK.out _ _ (HT0.out _ hYh) (fun _ => HS0.out _ hYh) ?_
      clear HK K
      refine RG.wpL_take (fuel := 7) (a' := ?A2) [25, 26, 27, 28, 29, 30] (by kernel_rfl) (by kernel_rfl) (fun _ _ _ _ _ h => h) (HT0.out _ hYh) (fun _ => HS0.out _ hYh) ?r2 ?_
      case r2 =>
        iterate 6
          refine RG.RunsIf.weak (v := ?_) (by rfl) (by rfl) (fun Z hT => ?_) ?_
          rotate_left
          · go_simp
            rfl
          simp only [Act.put, List.setIfInBounds_toArray, List.set_cons_zero, List.set_cons_succ]
        exact RG.RunsIf.nil
      have HTB : Hid (∀ Z : World, Z.heap[g]? = some (.cells #[.int .u8 p0, .int .u8 p1, .int .u8 p2, .int .u8 p3] 44 (0, 0)) → Z.cell? ⟨g, 0, none⟩ = some (.int .u8 p0) ∧ Z.cell? ⟨g, 1, none⟩ = some (.int .u8 p1) ∧ Z.cell? ⟨g, 2, none⟩ = some (.int .u8 p2) ∧ Z.cell? ⟨g, 3, none⟩ = some (.int .u8 p3)) :=
        fun Z h => ⟨blk_cell h (i := 0) rfl, blk_cell h (i := 1) rfl, blk_cell h (i := 2) rfl, blk_cell h (i := 3) rfl⟩
      have NV0 : Hid (Y0.heap[B]? = some (.cells (K .u64 us) 23 (0, 0))) := by show _ = _; rw [hYh]; exact NV.out
      have NP0 : Hid (Y0.heap[g]? = some (.cells #[.int .u8 p0, .int .u8 p1, .int .u8 p2, .int .u8 p3] 44 (0, 0))) := by show _ = _; rw [hYh]; exact NP.out
      have NA0 : Hid (Y0.heap[B + 1]? = some (.cells (K .u64 (List.replicate 16 0)) 23 (0, 0))) := by show _ = _; rw [hYh]; exact NA.out
      clear HT0 HS0 N0 N1 NB NBX NP NV NA hYh
      have c0 := blk_cellK NV0.out (i := p0) (by (try simp only [List.length_set]); rw [HFL.out]; exact a0)
      have f0 := blk_frozen NV0.out (i := p0)
      refine RG.wpL_late (i := 31) (by kernel_rfl) (by rfl) (by rfl) (by kernel_rfl) (fun K hK => ?_)
      have HK := TW.hide hK
      clear hK
      go_simp
      have NV1 := TW.hide (blk_setK (i := p0) (x := r0) NV0.out)
      have NP1 := TW.hide (blk_other (p := B) (o := p0) (u := .int .u64 r0) NP0.out (by omega))
      have NB1 := TW.hide (NB0.out.setCell (p := ⟨B, p0, none⟩) (Nat.le_refl B) (.int .u64 r0))
      have NA1 := TW.hide (blk_other (p := B) (o := p0) (u := .int .u64 r0) NA0.out (by omega))
      refine HK.out _ _ (HTB.out _ NP1.out) ?_
      clear HK K c0 f0 NV0 NP0 NB0 NA0
      generalize Y0.setCell ⟨B, p0, none⟩ (.int .u64 r0) = Y1 at *
      refine RG.wpL_late (i := 32) (by kernel_rfl) (by rfl) (by rfl) (by kernel_rfl) (fun K hK => ?_)
      have HK := TW.hide hK
      clear hK
      go_simp
      refine HK.out _ _ (HTB.out _ NP1.out) ?_
      clear HK K
      have c1 := blk_cellK NV1.out (i := p1) (by (try simp only [List.length_set]); rw [HFL.out]; exact a1)
      have f1 := blk_frozen NV1.out (i := p1)
      refine RG.wpL_late (i := 33) (by kernel_rfl) (by rfl) (by rfl) (by kernel_rfl) (fun K hK => ?_)
      have HK := TW.hide hK
      clear hK
      go_simp
      have NV2 := TW.hide (blk_setK (i := p1) (x := r1) NV1.out)
      have NP2 := TW.hide (blk_other (p := B) (o := p1) (u := .int .u64 r1) NP1.out (by omega))
      have NB2 := TW.hide (NB1.out.setCell (p := ⟨B, p1, none⟩) (Nat.le_refl B) (.int .u64 r1))
      have NA2 := TW.hide (blk_other (p := B) (o := p1) (u := .int .u64 r1) NA1.out (by omega))
      refine HK.out _ _ (HTB.out _ NP2.out) ?_
      clear HK K c1 f1 NV1 NP1 NB1 NA1
      generalize Y1.setCell ⟨B, p1, none⟩ (.int .u64 r1) = Y2 at *
      refine RG.wpL_late (i := 34) (by kernel_rfl) (by rfl) (by rfl) (by kernel_rfl) (fun K hK => ?_)
      have HK := TW.hide hK
      clear hK
      go_simp
      refine HK.out _ _ (HTB.out _ NP2.out) ?_
      clear HK K
      have c2 := blk_cellK NV2.out (i := p2) (by (try simp only [List.length_set]); rw [HFL.out]; exact a2)
      have f2 := blk_frozen NV2.out (i := p2)
      refine RG.wpL_late (i := 35) (by kernel_rfl) (by rfl) (by rfl) (by kernel_rfl) (fun K hK => ?_)
      have HK := TW.hide hK
      clear hK
      go_simp
      have NV3 := TW.hide (blk_setK (i := p2) (x := r2) NV2.out)
      have NP3 := TW.hide (blk_other (p := B) (o := p2) (u := .int .u64 r2) NP2.out (by omega))
      have NB3 := TW.hide (NB2.out.setCell (p := ⟨B, p2, none⟩) (Nat.le_refl B) (.int .u64 r2))
      have NA3 := TW.hide (blk_other (p := B) (o := p2) (u := .int .u64 r2) NA2.out (by omega))
      refine HK.out _ _ (HTB.out _ NP3.out) ?_
      clear HK K c2 f2 NV2 NP2 NB2 NA2
      generalize Y2.setCell ⟨B, p2, none⟩ (.int .u64 r2) = Y3 at *
      refine RG.wpL_late (i := 36) (by kernel_rfl) (by rfl) (by rfl) (by kernel_rfl) (fun K hK => ?_)
      have HK := TW.hide hK
      clear hK
      go_simp
      refine HK.out _ _ (HTB.out _ NP3.out) ?_
      clear HK K
      have c3 := blk_cellK NV3.out (i := p3) (by (try simp only [List.length_set]); rw [HFL.out]; exact a3)
      have f3 := blk_frozen NV3.out (i := p3)
      refine RG.wpL_late (i := 37) (by kernel_rfl) (by rfl) (by rfl) (by kernel_rfl) (fun K hK => ?_)
      have HK := TW.hide hK
      clear hK
      go_simp
      have NV4 := TW.hide (blk_setK (i := p3) (x := r3) NV3.out)
      have NP4 := TW.hide (blk_other (p := B) (o := p3) (u := .int .u64 r3) NP3.out (by omega))
      have NB4 := TW.hide (NB3.out.setCell (p := ⟨B, p3, none⟩) (Nat.le_refl B) (.int .u64 r3))
      have NA4 := TW.hide (blk_other (p := B) (o := p3) (u := .int .u64 r3) NA3.out (by omega))
      refine HK.out _ _ (HTB.out _ NP4.out) ?_
      clear HK K c3 f3 NV3 NP3 NB3 NA3
      generalize Y3.setCell ⟨B, p3, none⟩ (.int .u64 r3) = Y4 at *
      refine RG.wpL_done (by kernel_rfl) ?_ _
      refine NoPanic.normal ?_
      go_wp2
      have e0 := HV0.out
      have e3 := HV16.out
      subst e0 e3
      go_roundw
      case rel =>
        refine ⟨k + 1, by omega, by go_num, ?_, NA4.out, NB4.out⟩
        rw [HU1.out, HST2.out]
        exact NV4.out
      case measure => simp [intOf]; omega
    · obtain rfl : k = 8 := by omega
      have hfl : (pmTo vs 8).length = 16 := by rw [pmTo_length, hv]
      have hi31 : (Tryd.prog.info? 23).map (·.size) = some (K .u64 (pmTo vs 8)).size := by rw [K_size, hfl]; kernel_rfl
      have HO : Hid ((K .u64 (List.replicate 16 0)).size = (K .u64 (pmTo vs 8)).size) := by show _ = _; rw [K_size, K_size, hfl]; rfl
      have HI := TW.hide hi31
      have N0 := TW.hide n0
      have N1 := TW.hide n1
      have NB := TW.hide hb
      clear hi31 n0 n1 hb
      clear hfl
      generalize hU : pmTo vs 8 = us at *
      have HU := TW.hide hU
      clear hU
      go_wp2_with (first | (refine wpList_load_row (by rfl) 23 _ (by rfl) B (by rfl) 23 (K .u64 us) (0, 0) _ N0.out Tryd.underlying23 rfl HI.out ?_) | (refine wpList_store_row (by rfl) 23 _ _ (by rfl) (B + 1) (K .u64 us) (by rfl) (by rfl) 23 _ N1.out HI.out HO.out (K_one _ _) ?_))
      have e := HU.out
      subst e
      refine bodyPost_ret (v := .agg (K .u64 (pmTo vs 8))) (results_cell_row (P := Tryd.prog) Tryd.results8 _ _ (B + 1) 23 (K .u64 (pmTo vs 8)) (0, 0) _ (by rfl) (setRow_heap _ _ _ _ _ _ N1.out) Tryd.underlying23 rfl HI.out) rfl ?_
      exact ⟨rfl, below_setRow NB.out (by omega)⟩
end LW
end Go.Proofs.YtkgemkfajkcgcaaDoor
