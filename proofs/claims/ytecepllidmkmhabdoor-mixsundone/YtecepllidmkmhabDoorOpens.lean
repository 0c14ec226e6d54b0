/-
  What the calls Open (the program's and the document's) give: of what any state came.
-/
import Derived.Test.YtecepllidmkmhabDoorReading
import Derived.Test.YtecepllidmkmhabDoorRounds
import Derived.Test.YtecepllidmkmhabDoorRRounds
namespace Go.Proofs.YtecepllidmkmhabDoor
open Go.RowKit
set_option linter.unusedVariables false
set_option linter.unusedSimpArgs false
namespace MX
open Turn
attribute [local go_sem ↓] Go.wp_at_zero Go.wp_at_succ
set_option maxRecDepth 100000 in
set_option maxHeartbeats 4000000 in
theorem openOk (v ms : List Int) (w : World) (to : Tab w 1 .u8 ordL) (ti : Tab w 0 .u32 ivL) (hv : v.length = 16) (hm : ms.length = 16) (hV : Ws v) (hM : Ws ms) :
    Calls Tryd.prog 18 #[.agg (K .u32 v), .agg (K .u32 ms)] w fun e w' => e = .returned (.tuple #[.agg (K .u32 (opH (undoL v ms 10))), .int .u64 (opN (undoL v ms 10)), .bool (opA (undoL v ms 10)), .bool (opB (undoL v ms 10)), .bool (opOk (undoL v ms 10))]) ∧ Below w.heap.size w w' := by
  have hb := ((((Below.refl w.heap.size w).alloc (Nat.le_refl _) (.cells (K .u32 v) 34)).alloc (by simp; try omega) (.cells (K .u32 ms) 34)).alloc (by simp; try omega) (.cells (K .u32 (List.replicate 8 0)) 23))
  have n0 := (blk_alloc (o' := .cells (K .u32 (List.replicate 8 0)) 23) (blk_alloc (o' := .cells (K .u32 ms) 34) (heap_new w (.cells (K .u32 v) 34))))
  have n1 := (blk_alloc (o' := .cells (K .u32 (List.replicate 8 0)) 23) (heap_new (w.alloc (.cells (K .u32 v) 34)) (.cells (K .u32 ms) 34)))
  rw [show (w.alloc (.cells (K .u32 v) 34)).heap.size = w.heap.size + 1 by simp] at n1
  have n2 := (heap_new ((w.alloc (.cells (K .u32 v) 34)).alloc (.cells (K .u32 ms) 34)) (.cells (K .u32 (List.replicate 8 0)) 23))
  rw [show ((w.alloc (.cells (K .u32 v) 34)).alloc (.cells (K .u32 ms) 34)).heap.size = w.heap.size + 1 + 1 by simp] at n2
  have im := info16 ms hm
  have HL := TW.hide hv
  have HM := TW.hide hm
  have HW := TW.hide hV
  have HMW := TW.hide hM
  have IM := TW.hide im
  have TI := TW.hide ti
  have TO := TW.hide to
  clear hv hm hV hM im ti to
  go_enter Tryd.func18, Tryd.ntmps18
  refine wp_seq_k fun K hK => ?_
  have HK := TW.hide hK
  clear hK
  go_wp2
  refine HK.out _ _ ?_
  clear HK K
  change Code.wp _ _ _ _ (((w.alloc (.cells (K .u32 v) 34)).alloc (.cells (K .u32 ms) 34)).alloc (.cells (K .u32 (List.replicate 8 0)) 23))
  generalize hWW : ((w.alloc (.cells (K .u32 v) 34)).alloc (.cells (K .u32 ms) 34)).alloc (.cells (K .u32 (List.replicate 8 0)) 23) = W at hb n0 n1 n2 ⊢
  have hW : W.heap.size = w.heap.size + 1 + 1 + 1 := by rw [← hWW]; simp
  clear hWW
  generalize hB : w.heap.size = B at *
  have N0 := TW.hide n0
  have N1 := TW.hide n1
  have N2 := TW.hide n2
  have NB := TW.hide hb
  clear n0 n1 n2 hb
  clear hW
  go_wp2
  go_loopw [14] (fun i wr => ∃ k : Nat, k ≤ 10 ∧ i = .int .i64 (k) ∧ wr.heap[B]? = some (.cells (K .u32 (undoL v ms k)) 34 (0, 0)) ∧ wr.heap[B + 1]? = some (.cells (K .u32 ms) 34 (0, 0)) ∧ wr.heap[B + 1 + 1]? = some (.cells (K .u32 (List.replicate 8 0)) 23 (0, 0)) ∧ Below B w wr) (fun i _ => 10 - (intOf i).toNat)
  case atStart => exact ⟨0, Nat.zero_le _, rfl, N0.out, N1.out, N2.out, NB.out⟩
  case round =>
    rename_i Q1 K1 a1
    obtain ⟨k, hk, rfl, n0, n1, nz, hb⟩ := hrel
    clear N0 N1 N2 NB W
    have hul : (undoL v ms k).length = 16 := by rw [undoL_length]; exact HL.out
    have huw : Ws (undoL v ms k) := undoL_Ws ms k HW.out
    by_cases hlt : k < 10
    · have hst : undoL v ms (k + 1) = backL (undoL v ms k) ms (9 - k) := rfl
      generalize undoL v ms k = us at *
      have HLU := TW.hide hul
      have HUW := TW.hide huw
      have hcall := back us ms (9 - k) wr HLU.out HM.out HUW.out HMW.out (by omega) (TO.out.below (hB ▸ hb))
      have hl2 : (backL us ms (9 - k)).length = 16 := by rw [backL_length]; exact hul
      generalize backL us ms (9 - k) = us2 at *
      have e9 : (9 : Int) - (k : Int) = ((9 - k : Nat) : Int) := by omega
      have HC := TW.hide hcall
      have HST := TW.hide hst
      have IU := TW.hide (info16 us hul)
      have IU2 := TW.hide (info16 us2 hl2)
      have OU := TW.hide (size16 us us2 hul hl2)
      have G0 := TW.hide n0
      have G1 := TW.hide n1
      have GZ := TW.hide nz
      have GB := TW.hide hb
      clear n0 n1 nz hb
      clear hcall hst hul huw hl2
      have k0 : (0 : Int) ≤ ((9 - k : Nat) : Int) := by omega
      have k1 : (k : Int) < 10 := by omega
      rw [← e9] at HC
      have k2 : (0 : Int) ≤ 9 - (k : Int) := by omega
      have k3 : (k : Int) ≤ 9 := by omega
      clear e9 k0
      go_wp2_with (first | (refine wpList_load_row (by rfl) 34 _ (by rfl) (B) (by rfl) 34 (K .u32 us) (0, 0) _ G0.out Tryd.underlying34 rfl IU.out ?_) | (refine wpList_load_row (by rfl) 34 _ (by rfl) (B + 1) (by rfl) 34 (K .u32 ms) (0, 0) _ G1.out Tryd.underlying34 rfl IM.out ?_))
      refine HC.out.mono ?_
      rintro e w2 ⟨rfl, hb2⟩
      have M0 := TW.hide (blk_keep G0.out hb2)
      have M1 := TW.hide (blk_keep G1.out hb2)
      have MZ := TW.hide (blk_keep GZ.out hb2)
      have MB : Hid (Below B w w2) := below_row GB.out hb2 (by have := blk_lt G0.out; omega)
      clear hb2 G0 G1 GZ GB HC
      go_wp2_with (refine wpList_store_row (by rfl) 34 _ _ (by rfl) (B) (K .u32 us2) (by rfl) (by rfl) 34 _ M0.out IU2.out OU.out (K_one _ _) ?_)
      go_roundw
      case rel =>
        refine ⟨k + 1, by omega, by go_num, ?_, ?_, ?_, below_setRow MB.out (by omega)⟩
        · rw [HST.out]; exact setRow_heap _ _ _ _ _ _ M0.out
        · rw [setRow_other _ _ _ _ (by omega)]; exact M1.out
        · rw [setRow_other _ _ _ _ (by omega)]; exact MZ.out
      case measure => simp [intOf]; omega
    · obtain rfl : k = 10 := by omega
      have HA := TW.hide a1
      clear a1
      have hbl := beginL_length (rdH (undoL v ms 10)) (rdN (undoL v ms 10)) (rdA (undoL v ms 10)) (rdB (undoL v ms 10)) (rdH_length _ hul)
      have qe := fun W => eq16 W (beginL (rdH (undoL v ms 10)) (rdN (undoL v ms 10)) (rdA (undoL v ms 10)) (rdB (undoL v ms 10))) (undoL v ms 10) hbl hul
      have hNb := rdN_bd huw
      have hok := opOk_eq (undoL v ms 10)
      rw [hok] at qe
      have hrd := reading (undoL v ms 10) wr (TI.out.below (hB ▸ hb)) hul huw
      have hbg := fun Y (h : Below B w Y) => begin_ (rdH (undoL v ms 10)) (rdN (undoL v ms 10)) (rdA (undoL v ms 10)) (rdB (undoL v ms 10)) Y (TI.out.below (hB ▸ h)) (rdH_length _ hul) (rdH_Ws huw) hNb.1 hNb.2
      have i8 := info8 (rdH (undoL v ms 10)) (rdH_length _ hul)
      have o8 := size8 (List.replicate 8 0) (rdH (undoL v ms 10)) rfl (rdH_length _ hul)
      have iuu := info16 (undoL v ms 10) hul
      generalize beginL (rdH (undoL v ms 10)) (rdN (undoL v ms 10)) (rdA (undoL v ms 10)) (rdB (undoL v ms 10)) = bb at *
      generalize hg5 : opOk (undoL v ms 10) = ok at qe
      generalize hg1 : rdH (undoL v ms 10) = h8 at hrd hbg i8 o8
      generalize hg2 : rdN (undoL v ms 10) = N at hrd hbg
      generalize hg3 : rdA (undoL v ms 10) = A at hrd hbg
      generalize hg4 : rdB (undoL v ms 10) = Bb at hrd hbg
      have FIN := TW.hide (op_fin (undoL v ms 10) h8 N A Bb ok hg1 hg2 hg3 hg4 hg5)
      clear hg1 hg2 hg3 hg4 hg5
      clear hok hbl hNb
      generalize (undoL v ms 10) = u at qe hrd iuu n0 hul huw
      have QE := TW.hide qe
      have HRD := TW.hide hrd
      have HBG := TW.hide hbg
      have I8 := TW.hide i8
      have O8 := TW.hide o8
      have IUU := TW.hide iuu
      have G0 := TW.hide n0
      have GZ := TW.hide nz
      have GB := TW.hide hb
      clear qe hrd hbg i8 o8 iuu n0 nz hb
      clear n1 hul huw
      go_wp2
      refine HA.out _ _ ?_
      clear HA
      refine wp_seq_k fun KK hK => ?_
      have HK := TW.hide hK
      clear hK
      go_wp2_with (first | (refine wpList_load_row (by rfl) 34 _ (by rfl) (B) (by rfl) 34 (K .u32 u) (0, 0) _ G0.out Tryd.underlying34 rfl IUU.out ?_))
      refine (HRD.out).mono ?_
      rintro e w5 ⟨rfl, hb5⟩
      have G0' := TW.hide (blk_keep G0.out hb5)
      have GZ' := TW.hide (blk_keep GZ.out hb5)
      have GB' : Hid (Below B w w5) := below_row GB.out hb5 (le_of_below GB.out (by omega))
      clear hb5
      clear G0 GZ GB
      have G0 := G0'
      have GZ := GZ'
      have GB := GB'
      clear G0' GZ' GB'
      have hl_gH_G0 := blk_lt G0.out
      have hl_gH_GZ := blk_lt GZ.out
      go_wp2_with (first | (refine wpList_store_row (by rfl) 23 _ _ (by rfl) w5.heap.size (K .u32 h8) (by rfl) (by rfl) 23 _ (heap_new w5 _) I8.out O8.out (K_one _ _) ?_))
      have n5 := setRow_heap _ _ _ (K .u32 h8) _ _ (heap_new w5 (.cells #[.int .u32 0, .int .u32 0, .int .u32 0, .int .u32 0, .int .u32 0, .int .u32 0, .int .u32 0, .int .u32 0] 23))
      have bx5 := below_setRow (cs := (K .u32 h8)) ((Below.refl w5.heap.size w5).alloc (Nat.le_refl _) (.cells #[.int .u32 0, .int .u32 0, .int .u32 0, .int .u32 0, .int .u32 0, .int .u32 0, .int .u32 0, .int .u32 0] 23)) (g := w5.heap.size) (Nat.le_refl _)
      generalize (w5.alloc (.cells #[.int .u32 0, .int .u32 0, .int .u32 0, .int .u32 0, .int .u32 0, .int .u32 0, .int .u32 0, .int .u32 0] 23)).setRow w5.heap.size (K .u32 h8) = X5 at n5 bx5 ⊢
      have G0' := TW.hide (blk_keep G0.out bx5)
      have GZ' := TW.hide (blk_keep GZ.out bx5)
      have GB' : Hid (Below B w X5) := below_row GB.out bx5 (le_of_below GB.out (by omega))
      have GH := TW.hide n5
      clear n5 bx5
      clear G0 GZ GB
      have G0 := G0'
      have GZ := GZ'
      have GB := GB'
      clear G0' GZ' GB'
      generalize w5.heap.size = gH at *
      refine HK.out _ _ ?_
      clear HK KK
      have HTT := TW.hide (And.intro G0.out (And.intro GZ.out (And.intro GH.out GB.out)))
      clear G0 GZ GH GB
      refine wp_seq_k fun KK hK => ?_
      have HK0 := TW.hide hK
      clear hK
      refine wp_seq ?_
      refine wp_region_noPanic ?_
      refine RG.wp_region_L (fun Z => True) (fun Z => Z.heap[B]? = some (.cells (K .u32 u) 34 (0, 0)) ∧ Z.heap[B + 1 + 1]? = some (.cells (K .u32 (List.replicate 8 0)) 23 (0, 0)) ∧ Z.heap[gH]? = some (.cells (K .u32 h8) 23 (0, 0)) ∧ Below B w Z) [] (by kernel_rfl) ?_
      refine RG.wpL_any fun Yz hY => ?_
      have HTz : Hid (Yz.heap[B]? = some (.cells (K .u32 u) 34 (0, 0)) ∧ Yz.heap[B + 1 + 1]? = some (.cells (K .u32 (List.replicate 8 0)) 23 (0, 0)) ∧ Yz.heap[gH]? = some (.cells (K .u32 h8) 23 (0, 0)) ∧ Below B w Yz) := by rw [hY]; exact ⟨HTT.out.1, HTT.out.2.1, HTT.out.2.2.1, below_drewN HTT.out.2.2.2 1⟩
      clear hY
      refine RG.wpL_take (fuel := 2) (a' := ?Az) [0, 1, 2, 3, 5] (by kernel_rfl) (by kernel_rfl) (fun _ _ _ _ _ h => h) HTz.out (fun _ => trivial) ?rz ?_
      case rz =>
        refine RG.RunsIf.weak (by rfl) (by rfl) (fun Z hT => exec_load_row' 23 _ (by rfl) (gH) (by rfl) 23 (K .u32 h8) (0, 0) _ hT.2.2.1 Tryd.underlying23 rfl I8.out) ?_
        simp only [Act.put, List.setIfInBounds_toArray, List.set_cons_zero, List.set_cons_succ, List.getElem_toArray, List.getElem_cons_zero, List.getElem_cons_succ]
        refine RG.RunsIf.weak (v := ?_) (by rfl) (by rfl) (fun Z hT => ?_) ?_
        rotate_left
        · go_simp
          rfl
        simp only [Act.put, List.setIfInBounds_toArray, List.set_cons_zero, List.set_cons_succ, List.getElem_toArray, List.getElem_cons_zero, List.getElem_cons_succ]
        refine RG.RunsIf.weak (v := ?_) (by rfl) (by rfl) (fun Z hT => ?_) ?_
        rotate_left
        · go_simp
          rfl
        simp only [Act.put, List.setIfInBounds_toArray, List.set_cons_zero, List.set_cons_succ, List.getElem_toArray, List.getElem_cons_zero, List.getElem_cons_succ]
        refine RG.RunsIf.weak (v := ?_) (by rfl) (by rfl) (fun Z hT => ?_) ?_
        rotate_left
        · go_simp
          rfl
        simp only [Act.put, List.setIfInBounds_toArray, List.set_cons_zero, List.set_cons_succ, List.getElem_toArray, List.getElem_cons_zero, List.getElem_cons_succ]
        refine RG.RunsIf.weak (by rfl) (by rfl) (fun Z hT => exec_load_row' 34 _ (by rfl) (B) (by rfl) 34 (K .u32 u) (0, 0) _ hT.1 Tryd.underlying34 rfl IUU.out) ?_
        simp only [Act.put, List.setIfInBounds_toArray, List.set_cons_zero, List.set_cons_succ, List.getElem_toArray, List.getElem_cons_zero, List.getElem_cons_succ]
        exact RG.RunsIf.nil
      refine RG.wpL_step (i := 4) (by kernel_rfl) (by rfl) (by rfl) (fun KX hK => ?_)
      have HK := TW.hide hK
      clear hK
      go_simp
      refine (HBG.out Yz HTz.out.2.2.2).mono ?_
      rintro e wz ⟨rfl, hbwz⟩
      have Hwz : Hid (wz.heap[B]? = some (.cells (K .u32 u) 34 (0, 0)) ∧ wz.heap[B + 1 + 1]? = some (.cells (K .u32 (List.replicate 8 0)) 23 (0, 0)) ∧ wz.heap[gH]? = some (.cells (K .u32 h8) 23 (0, 0)) ∧ Below B w wz) := ⟨blk_keep HTz.out.1 hbwz, blk_keep HTz.out.2.1 hbwz, blk_keep HTz.out.2.2.1 hbwz, below_row HTz.out.2.2.2 hbwz (by have := blk_lt HTz.out.1; omega)⟩
      refine HK.out _ _ Hwz.out (fun _ => trivial) ?_
      clear HK KX hbwz HTz
      have q := QE.out
      refine RG.wpL_step (i := 6) (by kernel_rfl) (by rfl) (by rfl) (fun KX hK => ?_)
      have HK := TW.hide hK
      clear hK
      go_simp
      refine HK.out _ _ Hwz.out (fun _ => trivial) ?_
      clear HK KX q
      refine RG.wpL_done (by kernel_rfl) ?_ _
      refine NoPanic.normal ?_
      cases ok
      · go_wp2_with (refine wpList_store_row (by rfl) 23 _ _ (by rfl) (B + 1 + 1) (K .u32 (List.replicate 8 0)) (by rfl) (by rfl) 23 _ Hwz.out.2.1 (info8 (List.replicate 8 0) rfl) rfl (K_one _ _) ?_)
        refine bodyPost_ret (v := .tuple #[.agg (K .u32 (List.replicate 8 0)), .int .u64 0, .bool false, .bool false, .bool false]) (results_row_tmps4 (P := Tryd.prog) Tryd.results18 _ _ (B + 1 + 1) 23 (K .u32 (List.replicate 8 0)) (0, 0) _ _ _ _ _ (by rfl) (by rfl) (by rfl) (by rfl) (by rfl) (setRow_heap _ _ _ _ _ _ Hwz.out.2.1) Tryd.underlying23 rfl (info8 (List.replicate 8 0) rfl)) rfl ?_
        exact ⟨FIN.out (), below_setRow Hwz.out.2.2.2 (by omega)⟩
      · go_wp2
        refine HK0.out _ _ ?_
        clear HK0 KK
        go_wp2_with (first | (refine wpList_load_row (by rfl) 23 _ (by rfl) (gH) (by rfl) 23 (K .u32 h8) (0, 0) _ Hwz.out.2.2.1 Tryd.underlying23 rfl I8.out ?_) | (refine wpList_store_row (by rfl) 23 _ _ (by rfl) (B + 1 + 1) (K .u32 h8) (by rfl) (by rfl) 23 _ Hwz.out.2.1 I8.out O8.out (K_one _ _) ?_))
        refine bodyPost_ret (v := .tuple #[.agg (K .u32 h8), .int .u64 N, .bool A, .bool Bb, .bool true]) (results_row_tmps4 (P := Tryd.prog) Tryd.results18 _ _ (B + 1 + 1) 23 (K .u32 h8) (0, 0) _ _ _ _ _ (by rfl) (by rfl) (by rfl) (by rfl) (by rfl) (setRow_heap _ _ _ _ _ _ Hwz.out.2.1) Tryd.underlying23 rfl I8.out) rfl ?_
        exact ⟨FIN.out (), below_setRow Hwz.out.2.2.2 (by omega)⟩
end MX
end Go.Proofs.YtecepllidmkmhabDoor
