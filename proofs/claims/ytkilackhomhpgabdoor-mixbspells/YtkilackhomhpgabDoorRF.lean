/-
  What the call F (the document) gives, for all states, blocks, counts and flags.
-/
import Derived.Test.YtkilackhomhpgabDoorF
import Derived.Test.YtkilackhomhpgabDoorRRounds
namespace Go.Proofs.YtkilackhomhpgabDoor
open Go.RowKit
set_option linter.unusedVariables false
set_option linter.unusedSimpArgs false
namespace MX
open Turn
attribute [local go_sem ↓] Go.wp_at_zero Go.wp_at_succ
set_option maxRecDepth 100000 in
set_option maxHeartbeats 4000000 in
theorem rfOk (hs ms : List Int) (lo hi : Int) (la no : Bool) (w : World) (hl : hs.length = 8) (hm : ms.length = 16) (hw : Ws hs) (hM : Ws ms) (wl : W lo) (wh : W hi) :
    Calls Tryd.prog 9 #[.agg (K .u64 hs), .agg (K .u64 ms), .int .u64 lo, .int .u64 hi, .bool la, .bool no] w fun e w' => e = .returned (.agg (K .u64 (fL hs ms lo hi la no))) ∧ Below w.heap.size w w' := by
  have hb := ((((Below.refl w.heap.size w).alloc (Nat.le_refl _) (.cells (K .u64 hs) 23)).alloc (by simp; try omega) (.cells (K .u64 ms) 24)).alloc (by simp; try omega) (.cells (K .u64 (List.replicate 8 0)) 23))
  have n0 := (blk_alloc (o' := .cells (K .u64 (List.replicate 8 0)) 23) (blk_alloc (o' := .cells (K .u64 ms) 24) (heap_new w (.cells (K .u64 hs) 23))))
  have n1 := (blk_alloc (o' := .cells (K .u64 (List.replicate 8 0)) 23) (heap_new (w.alloc (.cells (K .u64 hs) 23)) (.cells (K .u64 ms) 24)))
  rw [show (w.alloc (.cells (K .u64 hs) 23)).heap.size = w.heap.size + 1 by simp] at n1
  have n2 := (heap_new ((w.alloc (.cells (K .u64 hs) 23)).alloc (.cells (K .u64 ms) 24)) (.cells (K .u64 (List.replicate 8 0)) 23))
  rw [show ((w.alloc (.cells (K .u64 hs) 23)).alloc (.cells (K .u64 ms) 24)).heap.size = w.heap.size + 1 + 1 by simp] at n2
  have i8 := info23 hs hl
  have iv := info31 (initL hs lo hi la no) (initL_length hs lo hi la no hl)
  have im := info31 ms hm
  have ov := size16 (List.replicate 16 0) (initL hs lo hi la no) rfl (initL_length hs lo hi la no hl)
  have HL := TW.hide hl
  have HM := TW.hide hm
  have HW := TW.hide hw
  have HMW := TW.hide hM
  have HWL := TW.hide wl
  have HWH := TW.hide wh
  have I8 := TW.hide i8
  have IV := TW.hide iv
  have IM := TW.hide im
  have OV := TW.hide ov
  clear hl hm hw hM wl wh i8 iv im ov
  go_enter Tryd.func9, Tryd.ntmps9
  refine wp_seq_k fun K hK => ?_
  have HK := TW.hide hK
  clear hK
  go_wp2
  refine HK.out _ _ ?_
  clear HK K
  change Code.wp _ _ _ _ (((w.alloc (.cells (K .u64 hs) 23)).alloc (.cells (K .u64 ms) 24)).alloc (.cells (K .u64 (List.replicate 8 0)) 23))
  generalize hWW : ((w.alloc (.cells (K .u64 hs) 23)).alloc (.cells (K .u64 ms) 24)).alloc (.cells (K .u64 (List.replicate 8 0)) 23) = W at hb n0 n1 n2 ⊢
  have hW : W.heap.size = w.heap.size + 1 + 1 + 1 := by rw [← hWW]; simp
  clear hWW
  generalize hB : w.heap.size = B at *
  have N0 := TW.hide n0
  have N1 := TW.hide n1
  have N2 := TW.hide n2
  have NB := TW.hide hb
  clear n0 n1 n2 hb
  clear hW
  refine wp_seq_k fun KK hK => ?_
  have HK := TW.hide hK
  clear hK
  go_wp2_with (first | (refine wpList_load_row (by rfl) 23 _ (by rfl) (B) (by rfl) 23 (K .u64 hs) (0, 0) _ N0.out Tryd.underlying23 rfl I8.out ?_))
  refine (rinit hs lo hi la no _ HL.out HW.out HWL.out HWH.out).mono ?_
  rintro e w1 ⟨rfl, hb1⟩
  have N0' := TW.hide (blk_keep N0.out hb1)
  have N1' := TW.hide (blk_keep N1.out hb1)
  have N2' := TW.hide (blk_keep N2.out hb1)
  have NB' : Hid (Below B w w1) := below_row NB.out hb1 (le_of_below NB.out (by omega))
  clear hb1
  clear N0 N1 N2 NB
  have N0 := N0'
  have N1 := N1'
  have N2 := N2'
  have NB := NB'
  clear N0' N1' N2' NB'
  go_wp2_with (first | (refine wpList_store_row (by rfl) 24 _ _ (by rfl) w1.heap.size (K .u64 (initL hs lo hi la no)) (by rfl) (by rfl) 24 _ (heap_new w1 _) IV.out OV.out (K_one _ _) ?_))
  have HZ := N2
  have n1 := setRow_heap _ _ _ (K .u64 (initL hs lo hi la no)) _ _ (heap_new w1 (.cells #[.int .u64 0, .int .u64 0, .int .u64 0, .int .u64 0, .int .u64 0, .int .u64 0, .int .u64 0, .int .u64 0, .int .u64 0, .int .u64 0, .int .u64 0, .int .u64 0, .int .u64 0, .int .u64 0, .int .u64 0, .int .u64 0] 24))
  have bx1 := below_setRow (cs := (K .u64 (initL hs lo hi la no))) ((Below.refl w1.heap.size w1).alloc (Nat.le_refl _) (.cells #[.int .u64 0, .int .u64 0, .int .u64 0, .int .u64 0, .int .u64 0, .int .u64 0, .int .u64 0, .int .u64 0, .int .u64 0, .int .u64 0, .int .u64 0, .int .u64 0, .int .u64 0, .int .u64 0, .int .u64 0, .int .u64 0] 24)) (g := w1.heap.size) (Nat.le_refl _)
  generalize (w1.alloc (.cells #[.int .u64 0, .int .u64 0, .int .u64 0, .int .u64 0, .int .u64 0, .int .u64 0, .int .u64 0, .int .u64 0, .int .u64 0, .int .u64 0, .int .u64 0, .int .u64 0, .int .u64 0, .int .u64 0, .int .u64 0, .int .u64 0] 24)).setRow w1.heap.size (K .u64 (initL hs lo hi la no)) = X1 at n1 bx1 ⊢
  have N0' := TW.hide (blk_keep N0.out bx1)
  have N1' := TW.hide (blk_keep N1.out bx1)
  have N2' := TW.hide (blk_keep N2.out bx1)
  have NB' : Hid (Below B w X1) := below_row NB.out bx1 (le_of_below NB.out (by omega))
  have R1 := TW.hide n1
  clear n1 bx1
  clear N0 N1 N2 NB
  have N0 := N0'
  have N1 := N1'
  have N2 := N2'
  have NB := NB'
  clear N0' N1' N2' NB'
  have hg : B + 1 + 1 < w1.heap.size := blk_lt HZ.out
  clear HZ
  generalize w1.heap.size = g at *
  refine HK.out _ _ ?_
  clear HK KK
  have HVL := TW.hide (initL_length hs lo hi la no HL.out)
  have HVW := TW.hide (initL_Ws la no HW.out HWL.out HWH.out)
  clear IV OV
  go_wp2
  go_loopw [14] (fun i wr => ∃ k : Nat, k ≤ 12 ∧ i = .int .i64 k ∧ wr.heap[B]? = some (.cells (K .u64 hs) 23 (0, 0)) ∧ wr.heap[B + 1]? = some (.cells (K .u64 ms) 24 (0, 0)) ∧ wr.heap[B + 1 + 1]? = some (.cells (K .u64 (List.replicate 8 0)) 23 (0, 0)) ∧ wr.heap[g]? = some (.cells (K .u64 (roundsL (initL hs lo hi la no) ms k)) 24 (0, 0)) ∧ Below B w wr) (fun i _ => 12 - (intOf i).toNat)
  case atStart => exact ⟨0, Nat.zero_le _, rfl, N0.out, N1.out, N2.out, R1.out, NB.out⟩
  case round =>
    rename_i Q1 K1 a1
    obtain ⟨k, hk, rfl, n0, n1, nz, nv, hb⟩ := hrel
    clear N0 N1 N2 R1 NB X1
    have hul : (roundsL (initL hs lo hi la no) ms k).length = 16 := by rw [roundsL_length]; exact HVL.out
    have huw : Ws (roundsL (initL hs lo hi la no) ms k) := roundsL_Ws ms k HVW.out
    by_cases hlt : k < 12
    · have hst : roundsL (initL hs lo hi la no) ms (k + 1) = forthL (roundsL (initL hs lo hi la no) ms k) ms k := rfl
      generalize roundsL (initL hs lo hi la no) ms k = us at *
      have HLU := TW.hide hul
      have HUW := TW.hide huw
      have hcall := rroundOk us ms k wr HLU.out HM.out HUW.out HMW.out hlt
      have hl2 : (forthL us ms k).length = 16 := by rw [forthL_length]; exact hul
      generalize forthL us ms k = us2 at *
      have HC := TW.hide hcall
      have HST := TW.hide hst
      have IU := TW.hide (info31 us hul)
      have IU2 := TW.hide (info31 us2 hl2)
      have OU := TW.hide (size16 us us2 hul hl2)
      have G0 := TW.hide n0
      have G1 := TW.hide n1
      have GZ := TW.hide nz
      have GV := TW.hide nv
      have GB := TW.hide hb
      clear n0 n1 nz nv hb
      clear hcall hst hul huw hl2
      have k1 : (k : Int) < 12 := by omega
      go_wp2_with (first | (refine wpList_load_row (by rfl) 24 _ (by rfl) (g) (by rfl) 24 (K .u64 us) (0, 0) _ GV.out Tryd.underlying24 rfl IU.out ?_) | (refine wpList_load_row (by rfl) 24 _ (by rfl) (B + 1) (by rfl) 24 (K .u64 ms) (0, 0) _ G1.out Tryd.underlying24 rfl IM.out ?_))
      refine HC.out.mono ?_
      rintro e w2 ⟨rfl, hb2⟩
      have M0 := TW.hide (blk_keep G0.out hb2)
      have M1 := TW.hide (blk_keep G1.out hb2)
      have MZ := TW.hide (blk_keep GZ.out hb2)
      have MV := TW.hide (blk_keep GV.out hb2)
      have MB : Hid (Below B w w2) := below_row GB.out hb2 (by have := blk_lt G0.out; omega)
      clear hb2 G0 G1 GZ GV GB HC
      go_wp2_with (refine wpList_store_row (by rfl) 24 _ _ (by rfl) (g) (K .u64 us2) (by rfl) (by rfl) 24 _ MV.out IU2.out OU.out (K_one _ _) ?_)
      go_roundw
      case rel =>
        refine ⟨k + 1, by omega, by go_num, ?_, ?_, ?_, ?_, below_setRow MB.out (by omega)⟩
        · rw [setRow_other _ _ _ _ (by omega)]; exact M0.out
        · rw [setRow_other _ _ _ _ (by omega)]; exact M1.out
        · rw [setRow_other _ _ _ _ (by omega)]; exact MZ.out
        · rw [HST.out]; exact setRow_heap _ _ _ _ _ _ MV.out
      case measure => simp [intOf]; omega
    · obtain rfl : k = 12 := by omega
      have HA := TW.hide a1
      clear a1
      have HFL : Hid (fL hs ms lo hi la no = overL hs (roundsL (initL hs lo hi la no) ms 12)) := rfl
      generalize roundsL (initL hs lo hi la no) ms 12 = V at *
      have HLU := TW.hide hul
      have HUW := TW.hide huw
      clear hul huw
      have G0 := TW.hide n0
      have GZ := TW.hide nz
      have GV := TW.hide nv
      have GB := TW.hide hb
      clear n0 nz nv hb
      clear n1
      go_wp2
      refine HA.out _ _ ?_
      clear HA
      go_wp2
      have HOL := TW.hide (overL_length hs V)
      go_loopw [15] (fun i wr => ∃ k : Nat, k ≤ 8 ∧ i = .int .i64 k ∧ wr.heap[B]? = some (.cells (K .u64 (part2 (overL hs V) hs k)) 23 (0, 0)) ∧ wr.heap[B + 1 + 1]? = some (.cells (K .u64 (List.replicate 8 0)) 23 (0, 0)) ∧ wr.heap[g]? = some (.cells (K .u64 V) 24 (0, 0)) ∧ Below B w wr) (fun i _ => 8 - (intOf i).toNat)
      case atStart => exact ⟨0, Nat.zero_le _, rfl, by rw [part2_zero]; exact G0.out, GZ.out, GV.out, GB.out⟩
      case round =>
        obtain ⟨k, hk, rfl, n0, nz, nv, hb⟩ := hrel
        clear G0 GZ GV GB
        by_cases hlt : k < 8
        · have hc0 := blk_cellK n0 (i := k) (by rw [part2_length _ _ 8 _ HOL.out HL.out hk]; exact hlt)
          rw [part2_get _ _ 8 _ HOL.out HL.out hlt] at hc0
          have hc1 := blk_cellK nv (i := k) (by rw [HLU.out]; omega)
          have hc2 := blk_cellK nv (i := k + 8) (by rw [HLU.out]; omega)
          have hln := part2_length (overL hs V) hs 8 k HOL.out HL.out hk
          have hsz := part2_set (overL hs V) hs 8 k HOL.out HL.out hlt
          rw [overL_get hs V k hlt] at hsz
          have hwx := HW.out.get k
          have hwy := HUW.out.get k
          have hwz := HUW.out.get (k + 8)
          generalize hs.getD k 0 = x at *
          generalize V.getD k 0 = y at *
          generalize V.getD (k + 8) 0 = z at *
          rw [← xo_assoc x y z hwx hwy hwz] at hsz
          obtain ⟨q1, e1⟩ : ∃ q, xo x y = q := ⟨_, rfl⟩
          rw [e1] at hsz
          obtain ⟨q, e2⟩ : ∃ q, xo q1 z = q := ⟨_, rfl⟩
          rw [e2] at hsz
          unfold xo at e1 e2
          have HS := TW.hide hsz
          have HLN := TW.hide hln
          have k0 : (0 : Int) ≤ (k : Int) := by omega
          have k1 : (k : Int) < 8 := by omega
          have k2 : (k : Int) < 16 := by omega
          have k3 : (k : Int) + 8 < 16 := by omega
          have k4 : (0 : Int) ≤ (k : Int) + 8 := by omega
          have hnk : IntKind.i64.wrap ((k : Int) + 8) = (k : Int) + 8 := by rw [IntKind.wrap_i64]; omega
          have hnt : ((k : Int) + 8).toNat = k + 8 := by omega
          have HTT : Hid (∀ Z : World, Z.heap[g]? = wr.heap[g]? → Z.cell? ⟨g, k, none⟩ = some (.int .u64 y) ∧ Z.cell? ⟨g, k + 8, none⟩ = some (.int .u64 z)) := fun Z hZ => by
            simp only [World.cell?, hZ] at hc1 hc2 ⊢
            exact ⟨hc1, hc2⟩
          have HSS : Hid (∀ Z : World, Z.heap = wr.heap → Z.cell? ⟨B, k, none⟩ = some (.int .u64 x)) := fun Z hZ => by
            simp only [World.cell?, hZ] at hc0 ⊢
            exact hc0
          have G0 : Hid (wr.drew.heap[B]? = some (.cells (K .u64 (part2 (overL hs V) hs k)) 23 (0, 0))) := n0
          have GZ : Hid (wr.drew.heap[B + 1 + 1]? = some (.cells (K .u64 (List.replicate 8 0)) 23 (0, 0))) := nz
          have GV : Hid (wr.drew.heap[g]? = some (.cells (K .u64 V) 24 (0, 0))) := nv
          have GB : Hid (Below B w wr.drew) := below_drewN hb 1
          clear hc0 hc1 hc2 n0 nz nv hb hsz hln hwx hwy hwz
          go_wp2
          refine wp_region_noPanic ?_
          refine RG.wp_region_L (fun Z => Z.cell? ⟨B, k, none⟩ = some (.int .u64 x)) (fun Z => Z.cell? ⟨g, k, none⟩ = some (.int .u64 y) ∧ Z.cell? ⟨g, k + 8, none⟩ = some (.int .u64 z)) [14] (by kernel_rfl) ?_
          refine RG.wpL_take (fuel := 2) (a' := ?A) [0, 1, 2, 3, 4, 5, 6, 7, 8, 9, 10, 11, 12] (by kernel_rfl) (by kernel_rfl) (fun _ _ _ _ _ h => h) (HTT.out _ rfl) (fun _ => HSS.out _ rfl) ?r ?_
          case r =>
            iterate 3
              refine RG.RunsIf.weak (v := ?_) (by rfl) (by rfl) (fun Z hT => ?_) ?_
              rotate_left
              · go_simp
                rfl
              simp only [Act.put, List.setIfInBounds_toArray, List.set_cons_zero, List.set_cons_succ, List.getElem_toArray, List.getElem_cons_zero, List.getElem_cons_succ]
            iterate 1
              refine RG.RunsIf.strong (v := ?_) (by rfl) (by kernel_rfl) (by rfl) (fun Z hT hS => ?_) ?_
              rotate_left
              · go_simp
                rfl
              simp only [Act.put, List.setIfInBounds_toArray, List.set_cons_zero, List.set_cons_succ, List.getElem_toArray, List.getElem_cons_zero, List.getElem_cons_succ]
            iterate 9
              refine RG.RunsIf.weak (v := ?_) (by rfl) (by rfl) (fun Z hT => ?_) ?_
              rotate_left
              · go_simp
                rfl
              simp only [Act.put, List.setIfInBounds_toArray, List.set_cons_zero, List.set_cons_succ, List.getElem_toArray, List.getElem_cons_zero, List.getElem_cons_succ]
            exact RG.RunsIf.nil
          have TT0 := TW.hide (HTT.out wr.drew rfl)
          have SS0 := TW.hide (HSS.out wr.drew rfl)
          have TTB : Hid (∀ (o : Nat) (u : Value), (wr.drew.setCell ⟨B, o, none⟩ u).cell? ⟨g, k, none⟩ = some (.int .u64 y) ∧ (wr.drew.setCell ⟨B, o, none⟩ u).cell? ⟨g, k + 8, none⟩ = some (.int .u64 z)) := fun o u => HTT.out _ (heap_setCell_other wr.drew ⟨B, o, none⟩ g u (by show g ≠ B; omega))
          clear HTT HSS
          generalize wr.drew = Y at *
          refine RG.wpL_step (i := 13) (by kernel_rfl) (by rfl) (by rfl) (fun K hK => ?_)
          have HK := TW.hide hK
          clear hK
          go_simp
          refine HK.out _ _ TT0.out (fun _ => SS0.out) ?_
          clear HK K
          have c := blk_cellK G0.out (i := k) (by rw [HLN.out]; exact hlt)
          have f := blk_frozen G0.out (i := k)
          refine RG.wpL_late (i := 14) (by kernel_rfl) (by rfl) (by rfl) (by kernel_rfl) (fun K hK => ?_)
          have HK := TW.hide hK
          clear hK
          go_simp
          refine HK.out _ _ (TTB.out _ _) ?_
          clear HK K c f TTB TT0 SS0
          have m0 := blk_setK (i := k) (x := q) G0.out
          have mz := blk_other (p := B) (o := k) (u := .int .u64 q) GZ.out (by omega)
          have mv := blk_other (p := B) (o := k) (u := .int .u64 q) GV.out (by omega)
          have mb := GB.out.setCell (p := ⟨B, k, none⟩) (Nat.le_refl B) (.int .u64 q)
          clear G0 GZ GV GB
          generalize Y.setCell ⟨B, k, none⟩ (.int .u64 q) = Y2 at *
          have G0 := TW.hide m0
          have GZ := TW.hide mz
          have GV := TW.hide mv
          have GB := TW.hide mb
          clear m0 mz mv mb
          refine RG.wpL_done (by kernel_rfl) ?_ _
          refine NoPanic.normal ?_
          go_wp2
          refine ⟨?_, ?measure⟩
          (repeat apply Exists.intro)
          refine ⟨?rel, rfl⟩
          case rel =>
            refine ⟨k + 1, by omega, by go_num, ?_, GZ.out, GV.out, GB.out⟩
            rw [← HS.out]
            exact G0.out
          case measure => simp [intOf]; omega
        · obtain rfl : k = 8 := by omega
          rw [part2_full _ _ 8 HOL.out HL.out] at n0
          have hI := TW.hide (info23 (overL hs V) HOL.out)
          have hO := TW.hide (size8 (List.replicate 8 0) (overL hs V) rfl HOL.out)
          have G0 := TW.hide n0
          have GZ := TW.hide nz
          have GB := TW.hide hb
          clear n0 nz nv hb
          go_wp2_with (first | (refine wpList_load_row (by rfl) 23 _ (by rfl) (B) (by rfl) 23 (K .u64 (overL hs V)) (0, 0) _ G0.out Tryd.underlying23 rfl hI.out ?_) | (refine wpList_store_row (by rfl) 23 _ _ (by rfl) (B + 1 + 1) (K .u64 (overL hs V)) (by rfl) (by rfl) 23 _ GZ.out hI.out hO.out (K_one _ _) ?_))
          refine bodyPost_ret (v := .agg (K .u64 (overL hs V))) (results_cell_row (P := Tryd.prog) Tryd.results9 _ _ (B + 1 + 1) 23 (K .u64 (overL hs V)) (0, 0) _ (by rfl) (setRow_heap _ _ _ _ _ _ GZ.out) Tryd.underlying23 rfl hI.out) rfl ?_
          exact ⟨by rw [HFL.out], below_setRow GB.out (by omega)⟩
end MX
end Go.Proofs.YtkilackhomhpgabDoor
