/-
  What the call reading gives: what a state says of chain, count and flags.
-/
import Derived.Test.YtecepllidmkmhabDoorOpenL
import Derived.Test.YtecepllidmkmhabDoorStructs
namespace Go.Proofs.YtecepllidmkmhabDoor
open Go.RowKit
set_option linter.unusedVariables false
set_option linter.unusedSimpArgs false
namespace MX
open Turn
attribute [local go_sem ↓] Go.wp_at_zero Go.wp_at_succ
set_option maxRecDepth 100000 in
set_option maxHeartbeats 4000000 in
theorem reading (u : List Int) (w : World) (ti : Tab w 0 .u32 ivL) (hu : u.length = 16) (hU : Ws u) :
    Calls Tryd.prog 33 #[.agg (K .u32 u)] w fun e w' => e = .returned (.tuple #[.agg (K .u32 (rdH u)), .int .u64 (rdN u), .bool (rdA u), .bool (rdB u)]) ∧ Below w.heap.size w w' := by
  have hb := (((Below.refl w.heap.size w).alloc (Nat.le_refl _) (.cells (K .u32 u) 34)).alloc (by simp; try omega) (.cells (K .u32 (List.replicate 8 0)) 23))
  have n0 := (blk_alloc (o' := .cells (K .u32 (List.replicate 8 0)) 23) (heap_new w (.cells (K .u32 u) 34)))
  have n1 := (heap_new (w.alloc (.cells (K .u32 u) 34)) (.cells (K .u32 (List.replicate 8 0)) 23))
  rw [show (w.alloc (.cells (K .u32 u) 34)).heap.size = w.heap.size + 1 by simp] at n1
  have hl := rdH_length u hu
  have hget := fun k hk => rdH_get u k hk
  have HU := TW.hide hu
  have HUW := TW.hide hU
  have HL := TW.hide hl
  have HGET := TW.hide hget
  clear hu hU hl hget
  go_enter Tryd.func33, Tryd.ntmps33
  refine wp_seq_k fun K hK => ?_
  have HK := TW.hide hK
  clear hK
  go_wp2
  refine HK.out _ _ ?_
  clear HK K
  change Code.wp _ _ _ _ ((w.alloc (.cells (K .u32 u) 34)).alloc (.cells (K .u32 (List.replicate 8 0)) 23))
  generalize hWW : (w.alloc (.cells (K .u32 u) 34)).alloc (.cells (K .u32 (List.replicate 8 0)) 23) = W at hb n0 n1 ⊢
  have hW : W.heap.size = w.heap.size + 1 + 1 := by rw [← hWW]; simp
  clear hWW
  generalize hB : w.heap.size = B at *
  have HTI := TW.hide ti
  have HBB := TW.hide hB
  clear ti
  have N0 := TW.hide n0
  have N1 := TW.hide n1
  have NB := TW.hide hb
  clear n0 n1 hb
  clear hW hB
  go_wp2
  go_loopw [7] (fun i wr => ∃ k : Nat, k ≤ 8 ∧ i = .int .i64 k ∧ wr.heap[B]? = some (.cells (K .u32 u) 34 (0, 0)) ∧ wr.heap[B + 1]? = some (.cells (K .u32 (upto (rdH u) 8 k)) 23 (0, 0)) ∧ Below B w wr) (fun i _ => 8 - (intOf i).toNat)
  case atStart => exact ⟨0, Nat.zero_le _, rfl, N0.out, by simpa [upto] using N1.out, NB.out⟩
  case round =>
    rename_i Q1 K1 a1
    obtain ⟨k, hk, rfl, n0, n1, hb⟩ := hrel
    clear N0 N1 NB W
    have G0 := TW.hide n0
    have G1 := TW.hide n1
    have GB := TW.hide hb
    by_cases hlt : k < 8
    · have hsz := upto_set (rdH u) 8 k HL.out hlt
      rw [HGET.out k hlt] at hsz
      have hc0 := blk_cellK n0 (i := k) (by rw [HU.out]; omega)
      have hc1 := blk_cellK n1 (i := k) (by rw [upto_length _ _ _ HL.out hk]; exact hlt)
      have hf1 := blk_frozen n1 (i := k)
      generalize u.getD k 0 = x at *
      have HS := TW.hide hsz
      clear n0 n1 hb hsz
      generalize (upto (rdH u) 8 k).getD k 0 = z at *
      have k0 : (0 : Int) ≤ (k : Int) := by omega
      have k1 : (k : Int) < 8 := by omega
      have k2 : (k : Int) < 16 := by omega
      go_wp2
      go_roundw
      case rel =>
        refine ⟨k + 1, by omega, by go_num, blk_other G0.out (by omega), ?_, GB.out.setCell (by simp) _⟩
        rw [← HS.out]
        exact blk_setK G1.out
      case measure => simp [intOf]; omega
    · obtain rfl : k = 8 := by omega
      have HA := TW.hide a1
      clear a1
      rw [upto_full _ _ HL.out] at n1
      have h12 := blk_cellK n0 (i := 12) (by rw [HU.out]; omega)
      have h13 := blk_cellK n0 (i := 13) (by rw [HU.out]; omega)
      have h14 := fun (Z : World) (h : Z.heap[B]? = some (.cells (K .u32 u) 34 (0, 0))) => blk_cellK h (i := 14) (by rw [HU.out]; omega)
      have h15 := fun (Z : World) (h : Z.heap[B]? = some (.cells (K .u32 u) 34 (0, 0))) => blk_cellK h (i := 15) (by rw [HU.out]; omega)
      have ti4 := (HTI.out.below (w' := wr) (HBB.out ▸ hb)).cell 4 (by decide)
      have ti5 := (HTI.out.below (w' := wr) (HBB.out ▸ hb)).cell 5 (by decide)
      have ti6 := fun (Z : World) (h : Below B w Z) => (HTI.out.below (w' := Z) (HBB.out ▸ h)).cell 6 (by decide)
      have ti7 := fun (Z : World) (h : Below B w Z) => (HTI.out.below (w' := Z) (HBB.out ▸ h)).cell 7 (by decide)
      have eN : rdN u = xo (u.getD 12 0) (ivL.getD 4 0) + xo (u.getD 13 0) (ivL.getD 5 0) * 4294967296 := rfl
      have eA : rdA u = (u.getD 14 0 != ivL.getD 6 0) := rfl
      have eB : rdB u = (u.getD 15 0 != ivL.getD 7 0) := rfl
      have w1 := xo_bd _ _ (HUW.out.get 12) (ivL_Ws.get 4)
      have w2 := xo_bd _ _ (HUW.out.get 13) (ivL_Ws.get 5)
      have hor := or_add _ _ w1 w2
      rw [← eN] at hor
      have i8 := info8 (rdH u) HL.out
      have o8 := size8 (rdH u) (rdH u) HL.out HL.out
      generalize hgN : rdN u = N at *
      have HGN := TW.hide hgN
      clear hgN
      generalize hgA : rdA u = A at *
      have HGA := TW.hide hgA
      clear hgA
      generalize hgB : rdB u = Bb at *
      have HGB := TW.hide hgB
      clear hgB
      generalize u.getD 12 0 = u12 at *
      generalize u.getD 13 0 = u13 at *
      generalize u.getD 14 0 = u14 at *
      generalize u.getD 15 0 = u15 at *
      generalize ivL.getD 4 0 = y4 at *
      generalize ivL.getD 5 0 = y5 at *
      generalize ivL.getD 6 0 = y6 at *
      generalize ivL.getD 7 0 = y7 at *
      generalize hgH : rdH u = h8 at *
      have HGH := TW.hide hgH
      clear hgH
      have HT : Hid (wr.heap[B]? = some (.cells (K .u32 u) 34 (0, 0)) ∧ wr.heap[B + 1]? = some (.cells (K .u32 h8) 23 (0, 0)) ∧ Below B w wr) := ⟨n0, n1, hb⟩
      have EA := TW.hide eA
      have EB := TW.hide eB
      unfold xo at hor w1 w2
      obtain ⟨x1, e1⟩ : ∃ z, bits BinOp.xor IntKind.u32 u12 y4 = z := ⟨_, rfl⟩
      obtain ⟨x2, e2⟩ : ∃ z, bits BinOp.xor IntKind.u32 u13 y5 = z := ⟨_, rfl⟩
      rw [e1, e2] at hor
      rw [e1] at w1
      rw [e2] at w2
      obtain ⟨w1a, w1b⟩ := w1
      obtain ⟨w2a, w2b⟩ := w2
      have I8 := TW.hide i8
      have O8 := TW.hide o8
      have H14 := TW.hide h14
      have H15 := TW.hide h15
      have T6 := TW.hide ti6
      have T7 := TW.hide ti7
      clear n0 n1 hb eA eB eN i8 o8 h14 h15 ti6 ti7 G0 G1 GB HGET
      go_wp2
      refine HA.out _ _ ?_
      clear HA
      refine wp_seq_k fun KK hK => ?_
      have HK0 := TW.hide hK
      clear hK
      go_wp2
      refine HK0.out _ _ ?_
      clear HK0 KK
      refine wp_seq ?_
      refine wp_region_noPanic ?_
      refine RG.wp_region_L (fun Z => True) (fun Z => Z.heap[B]? = some (.cells (K .u32 u) 34 (0, 0)) ∧ Z.heap[B + 1]? = some (.cells (K .u32 h8) 23 (0, 0)) ∧ Below B w Z) [] (by kernel_rfl) ?_
      refine RG.wpL_any fun Ya hY => ?_
      have HTa : Hid (Ya.heap[B]? = some (.cells (K .u32 u) 34 (0, 0)) ∧ Ya.heap[B + 1]? = some (.cells (K .u32 h8) 23 (0, 0)) ∧ Below B w Ya) := by rw [hY]; exact ⟨HT.out.1, HT.out.2.1, below_drewN HT.out.2.2 1⟩
      clear hY
      refine RG.wpL_take (fuel := 4) (a' := ?Aa) [0, 1, 2, 3, 4, 5, 6, 7, 8, 9, 10, 11] (by kernel_rfl) (by kernel_rfl) (fun _ _ _ _ _ h => h) HTa.out (fun _ => trivial) ?ra ?_
      case ra =>
        refine RG.RunsIf.weak (by rfl) (by rfl) (fun Z hT => exec_load_row' 23 _ (by rfl) (B + 1) (by rfl) 23 (K .u32 h8) (0, 0) _ hT.2.1 Tryd.underlying23 rfl I8.out) ?_
        simp only [Act.put, List.setIfInBounds_toArray, List.set_cons_zero, List.set_cons_succ, List.getElem_toArray, List.getElem_cons_zero, List.getElem_cons_succ]
        refine RG.RunsIf.weak (v := ?_) (by rfl) (by rfl) (fun Z hT => ?_) ?_
        rotate_left
        · have c14 := H14.out Z hT.1
          have c15 := H15.out Z hT.1
          have c6 := T6.out Z hT.2.2
          have c7 := T7.out Z hT.2.2
          go_simp
          rfl
        simp only [Act.put, List.setIfInBounds_toArray, List.set_cons_zero, List.set_cons_succ, List.getElem_toArray, List.getElem_cons_zero, List.getElem_cons_succ]
        refine RG.RunsIf.weak (v := ?_) (by rfl) (by rfl) (fun Z hT => ?_) ?_
        rotate_left
        · have c14 := H14.out Z hT.1
          have c15 := H15.out Z hT.1
          have c6 := T6.out Z hT.2.2
          have c7 := T7.out Z hT.2.2
          go_simp
          rfl
        simp only [Act.put, List.setIfInBounds_toArray, List.set_cons_zero, List.set_cons_succ, List.getElem_toArray, List.getElem_cons_zero, List.getElem_cons_succ]
        refine RG.RunsIf.weak (v := ?_) (by rfl) (by rfl) (fun Z hT => ?_) ?_
        rotate_left
        · have c14 := H14.out Z hT.1
          have c15 := H15.out Z hT.1
          have c6 := T6.out Z hT.2.2
          have c7 := T7.out Z hT.2.2
          go_simp
          rfl
        simp only [Act.put, List.setIfInBounds_toArray, List.set_cons_zero, List.set_cons_succ, List.getElem_toArray, List.getElem_cons_zero, List.getElem_cons_succ]
        refine RG.RunsIf.weak (v := ?_) (by rfl) (by rfl) (fun Z hT => ?_) ?_
        rotate_left
        · have c14 := H14.out Z hT.1
          have c15 := H15.out Z hT.1
          have c6 := T6.out Z hT.2.2
          have c7 := T7.out Z hT.2.2
          go_simp
          rfl
        simp only [Act.put, List.setIfInBounds_toArray, List.set_cons_zero, List.set_cons_succ, List.getElem_toArray, List.getElem_cons_zero, List.getElem_cons_succ]
        refine RG.RunsIf.weak (v := ?_) (by rfl) (by rfl) (fun Z hT => ?_) ?_
        rotate_left
        · have c14 := H14.out Z hT.1
          have c15 := H15.out Z hT.1
          have c6 := T6.out Z hT.2.2
          have c7 := T7.out Z hT.2.2
          go_simp
          rfl
        simp only [Act.put, List.setIfInBounds_toArray, List.set_cons_zero, List.set_cons_succ, List.getElem_toArray, List.getElem_cons_zero, List.getElem_cons_succ]
        refine RG.RunsIf.weak (v := ?_) (by rfl) (by rfl) (fun Z hT => ?_) ?_
        rotate_left
        · have c14 := H14.out Z hT.1
          have c15 := H15.out Z hT.1
          have c6 := T6.out Z hT.2.2
          have c7 := T7.out Z hT.2.2
          go_simp
          rfl
        simp only [Act.put, List.setIfInBounds_toArray, List.set_cons_zero, List.set_cons_succ, List.getElem_toArray, List.getElem_cons_zero, List.getElem_cons_succ]
        refine RG.RunsIf.weak (v := ?_) (by rfl) (by rfl) (fun Z hT => ?_) ?_
        rotate_left
        · have c14 := H14.out Z hT.1
          have c15 := H15.out Z hT.1
          have c6 := T6.out Z hT.2.2
          have c7 := T7.out Z hT.2.2
          go_simp
          rfl
        simp only [Act.put, List.setIfInBounds_toArray, List.set_cons_zero, List.set_cons_succ, List.getElem_toArray, List.getElem_cons_zero, List.getElem_cons_succ]
        refine RG.RunsIf.weak (v := ?_) (by rfl) (by rfl) (fun Z hT => ?_) ?_
        rotate_left
        · have c14 := H14.out Z hT.1
          have c15 := H15.out Z hT.1
          have c6 := T6.out Z hT.2.2
          have c7 := T7.out Z hT.2.2
          go_simp
          rfl
        simp only [Act.put, List.setIfInBounds_toArray, List.set_cons_zero, List.set_cons_succ, List.getElem_toArray, List.getElem_cons_zero, List.getElem_cons_succ]
        refine RG.RunsIf.weak (v := ?_) (by rfl) (by rfl) (fun Z hT => ?_) ?_
        rotate_left
        · have c14 := H14.out Z hT.1
          have c15 := H15.out Z hT.1
          have c6 := T6.out Z hT.2.2
          have c7 := T7.out Z hT.2.2
          go_simp
          rfl
        simp only [Act.put, List.setIfInBounds_toArray, List.set_cons_zero, List.set_cons_succ, List.getElem_toArray, List.getElem_cons_zero, List.getElem_cons_succ]
        refine RG.RunsIf.weak (v := ?_) (by rfl) (by rfl) (fun Z hT => ?_) ?_
        rotate_left
        · have c14 := H14.out Z hT.1
          have c15 := H15.out Z hT.1
          have c6 := T6.out Z hT.2.2
          have c7 := T7.out Z hT.2.2
          go_simp
          rfl
        simp only [Act.put, List.setIfInBounds_toArray, List.set_cons_zero, List.set_cons_succ, List.getElem_toArray, List.getElem_cons_zero, List.getElem_cons_succ]
        refine RG.RunsIf.weak (v := ?_) (by rfl) (by rfl) (fun Z hT => ?_) ?_
        rotate_left
        · have c14 := H14.out Z hT.1
          have c15 := H15.out Z hT.1
          have c6 := T6.out Z hT.2.2
          have c7 := T7.out Z hT.2.2
          go_simp
          rfl
        simp only [Act.put, List.setIfInBounds_toArray, List.set_cons_zero, List.set_cons_succ, List.getElem_toArray, List.getElem_cons_zero, List.getElem_cons_succ]
        exact RG.RunsIf.nil
      refine RG.wpL_step (i := 12) (by kernel_rfl) (by rfl) (by rfl) (fun KX hK => ?_)
      have HK := TW.hide hK
      clear hK
      refine wp_store_row 23 _ _ (by rfl) (B + 1) (K .u32 h8) (by rfl) (by rfl) 23 _ HTa.out.2.1 I8.out rfl (K_one _ _) ?_
      have HTb : Hid ((Ya.setRow (B + 1) (K .u32 h8)).heap[B]? = some (.cells (K .u32 u) 34 (0, 0)) ∧ (Ya.setRow (B + 1) (K .u32 h8)).heap[B + 1]? = some (.cells (K .u32 h8) 23 (0, 0)) ∧ Below B w (Ya.setRow (B + 1) (K .u32 h8))) := ⟨by rw [setRow_other _ _ _ _ (by omega)]; exact HTa.out.1, setRow_heap _ _ _ _ _ _ HTa.out.2.1, below_setRow HTa.out.2.2 (by omega)⟩
      refine HK.out _ _ HTb.out (fun _ => trivial) ?_
      clear HK KX HTa
      refine RG.wpL_any fun Yb hY => ?_
      rw [← hY] at HTb
      clear hY
      simp only [Act.put, List.setIfInBounds_toArray, List.set_cons_zero, List.set_cons_succ, List.getElem_toArray, List.getElem_cons_zero, List.getElem_cons_succ]
      refine RG.wpL_step (i := 13) (by kernel_rfl) (by rfl) (by rfl) (fun KX hK => ?_)
      have HK := TW.hide hK
      clear hK
      go_simp
      refine HK.out _ _ HTb.out (fun _ => trivial) ?_
      clear HK KX
      refine RG.wpL_step (i := 14) (by kernel_rfl) (by rfl) (by rfl) (fun KX hK => ?_)
      have HK := TW.hide hK
      clear hK
      go_simp
      refine HK.out _ _ HTb.out (fun _ => trivial) ?_
      clear HK KX
      refine RG.wpL_step (i := 15) (by kernel_rfl) (by rfl) (by rfl) (fun KX hK => ?_)
      have HK := TW.hide hK
      clear hK
      go_simp
      refine HK.out _ _ HTb.out (fun _ => trivial) ?_
      clear HK KX
      refine RG.wpL_done (by kernel_rfl) ?_ _
      refine NoPanic.normal ?_
      go_wp2
      have ea := EA.out
      have eb := EB.out
      subst ea eb
      refine bodyPost_ret (v := .tuple #[.agg (K .u32 h8), .int .u64 N, .bool (u14 != y6), .bool (u15 != y7)]) (results_row_tmps3 (P := Tryd.prog) Tryd.results33 _ _ (B + 1) 23 (K .u32 h8) (0, 0) _ _ _ _ (by rfl) (by rfl) (by rfl) (by rfl) HTb.out.2.1 Tryd.underlying23 rfl I8.out) rfl ?_
      exact ⟨by rw [HGN.out, HGA.out, HGB.out, HGH.out], HTb.out.2.2⟩
end MX
end Go.Proofs.YtecepllidmkmhabDoor
