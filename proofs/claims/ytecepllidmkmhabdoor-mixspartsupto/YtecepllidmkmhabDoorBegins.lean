/-
  What the calls Begin (the program's and the document's) give, for all chains, counts and flags.
-/
import Derived.Test.YtecepllidmkmhabDoorBeginL
import Derived.Test.YtecepllidmkmhabDoorTabs
import Derived.Test.YtecepllidmkmhabDoorOrder
namespace Go.Proofs.YtecepllidmkmhabDoor
open Go.RowKit
set_option linter.unusedVariables false
set_option linter.unusedSimpArgs false
namespace MX
open Turn
attribute [local go_sem ↓] Go.wp_at_zero Go.wp_at_succ
set_option maxRecDepth 100000 in
set_option maxHeartbeats 4000000 in
theorem begin_ (hs : List Int) (n : Int) (la no : Bool) (w : World) (ti : Tab w 0 .u32 ivL) (hl : hs.length = 8) (hw : Ws hs) (wn : 0 ≤ n) (wn' : n < 18446744073709551616) :
    Calls Tryd.prog 19 #[.agg (K .u32 hs), .int .u64 n, .bool la, .bool no] w fun e w' => e = .returned (.agg (K .u32 (beginL hs n la no))) ∧ Below w.heap.size w w' := by
  unfold beginL
  obtain ⟨lo, hlo⟩ : ∃ z, n % 4294967296 = z := ⟨_, rfl⟩
  obtain ⟨hi, hhi⟩ : ∃ z, n / 4294967296 = z := ⟨_, rfl⟩
  rw [hlo, hhi]
  have hb := ((((Below.refl w.heap.size w).alloc (Nat.le_refl _) (.cells (K .u32 hs) 23)).alloc (by simp; try omega) (.cells (K .u32 (List.replicate 16 0)) 34)).alloc (by simp; try omega) (.cells (K .u32 (List.replicate 16 0)) 34))
  have n0 := (blk_alloc (o' := .cells (K .u32 (List.replicate 16 0)) 34) (blk_alloc (o' := .cells (K .u32 (List.replicate 16 0)) 34) (heap_new w (.cells (K .u32 hs) 23))))
  have n1 := (blk_alloc (o' := .cells (K .u32 (List.replicate 16 0)) 34) (heap_new (w.alloc (.cells (K .u32 hs) 23)) (.cells (K .u32 (List.replicate 16 0)) 34)))
  rw [show (w.alloc (.cells (K .u32 hs) 23)).heap.size = w.heap.size + 1 by simp] at n1
  have n2 := (heap_new ((w.alloc (.cells (K .u32 hs) 23)).alloc (.cells (K .u32 (List.replicate 16 0)) 34)) (.cells (K .u32 (List.replicate 16 0)) 34))
  rw [show ((w.alloc (.cells (K .u32 hs) 23)).alloc (.cells (K .u32 (List.replicate 16 0)) 34)).heap.size = w.heap.size + 1 + 1 by simp] at n2
  have HL := TW.hide hl
  clear hl
  have HLO := TW.hide hlo
  have HHI := TW.hide hhi
  clear hlo hhi
  go_enter Tryd.func19, Tryd.ntmps19
  refine wp_seq_k fun K hK => ?_
  have HK := TW.hide hK
  clear hK
  go_wp2
  refine HK.out _ _ ?_
  clear HK K
  refine wp_seq_k fun K hK => ?_
  have HK := TW.hide hK
  clear hK
  go_wp2
  refine HK.out _ _ ?_
  clear HK K
  change Code.wp _ _ _ _ (((w.alloc (.cells (K .u32 hs) 23)).alloc (.cells (K .u32 (List.replicate 16 0)) 34)).alloc (.cells (K .u32 (List.replicate 16 0)) 34))
  generalize hWW : ((w.alloc (.cells (K .u32 hs) 23)).alloc (.cells (K .u32 (List.replicate 16 0)) 34)).alloc (.cells (K .u32 (List.replicate 16 0)) 34) = W at hb n0 n1 n2 ⊢
  have hW : W.heap.size = w.heap.size + 1 + 1 + 1 := by rw [← hWW]; simp
  clear hWW
  have h0 : 0 < w.heap.size := LW.lt_of_cell (ti.cell 0 (by decide))
  generalize hB : w.heap.size = B at *
  have HTI := TW.hide ti
  have HBB := TW.hide hB
  clear hB ti
  have N0 := TW.hide n0
  have N1 := TW.hide n1
  have N2 := TW.hide n2
  have NB := TW.hide hb
  clear n0 n1 n2 hb
  clear hW
  go_wp2
  go_loopw [11] (fun i wr => ∃ k : Nat, k ≤ 8 ∧ i = .int .i64 k ∧ wr.heap[B]? = some (.cells (K .u32 hs) 23 (0, 0)) ∧ wr.heap[B + 1]? = some (.cells (K .u32 (List.replicate 16 0)) 34 (0, 0)) ∧ wr.heap[B + 1 + 1]? = some (.cells (K .u32 (upto hs 8 k ++ upto ivL 8 k)) 34 (0, 0)) ∧ Below B w wr) (fun i _ => 8 - (intOf i).toNat)
  case atStart => exact ⟨0, Nat.zero_le _, rfl, N0.out, N1.out, by simpa [upto] using N2.out, NB.out⟩
  case round =>
    rename_i Q1 K1 a1
    obtain ⟨k, hk, rfl, n0, n1, n2, hb⟩ := hrel
    clear N0 N1 N2 NB W
    have G0 := TW.hide n0
    have G1 := TW.hide n1
    have G2 := TW.hide n2
    have GB := TW.hide hb
    by_cases hlt : k < 8
    · have hkk := hlt
      have hul := upto_length hs 8 k HL.out hk
      have hu2 := upto_length ivL 8 k ivL_length hk
      have hsz : upto hs 8 (k + 1) ++ upto ivL 8 (k + 1) = ((upto hs 8 k ++ upto ivL 8 k).set k (hs.getD k 0)).set (k + 8) (ivL.getD k 0) := by
        rw [join_set _ _ k _ _ hul hlt, upto_set hs 8 k HL.out hlt, upto_set ivL 8 k ivL_length hlt]
      have hc0 := blk_cellK n0 (i := k) (by rw [HL.out]; exact hlt)
      have ht0 := (HTI.out.below (w' := wr) (HBB.out ▸ hb)).cell k (by rw [ivL_length]; exact hlt)
      have hlen : (upto hs 8 k ++ upto ivL 8 k).length = 16 := by rw [List.length_append, hul, hu2]
      generalize hs.getD k 0 = x at *
      generalize ivL.getD k 0 = y at *
      generalize hus : upto hs 8 k ++ upto ivL 8 k = us at *
      clear hus
      have HS := TW.hide hsz
      have HLEN := TW.hide hlen
      clear n0 n1 n2 hb hsz hlen hul hu2
      have k0 : (0 : Int) ≤ (k : Int) := by omega
      have k1 : (k : Int) < 8 := by omega
      have k2 : (k : Int) < 16 := by omega
      have k3 : (k : Int) + 8 < 16 := by omega
      have k4 : (0 : Int) ≤ (k : Int) + 8 := by omega
      go_wp2
      have HTT : Hid (∀ Z : World, Z.heap = wr.heap → Z.cell? ⟨B, k, none⟩ = some (.int .u32 x) ∧ Z.cell? ⟨0, k, none⟩ = some (.int .u32 y)) := fun Z hZ => by
        simp only [World.cell?, hZ] at hc0 ht0 ⊢
        exact ⟨hc0, ht0⟩
      clear hc0 ht0
      have hnk : IntKind.i64.wrap ((k : Int) + 8) = (k : Int) + 8 := by rw [IntKind.wrap_i64]; omega
      have hnt : ((k : Int) + 8).toNat = k + 8 := by omega
      refine wp_region_noPanic ?_
      refine RG.wp_region_L (fun Z => True) (fun Z => Z.cell? ⟨B, k, none⟩ = some (.int .u32 x) ∧ Z.cell? ⟨0, k, none⟩ = some (.int .u32 y)) [] (by kernel_rfl) ?_
      refine RG.wpL_take (fuel := 4) (a' := ?A) [0, 1, 2, 3, 4, 5, 6, 7, 8] (by kernel_rfl) (by kernel_rfl) (fun _ _ _ _ _ h => h) (HTT.out _ rfl) (fun _ => trivial) ?r ?_
      case r =>
        iterate 9
          refine RG.RunsIf.weak (v := ?_) (by rfl) (by rfl) (fun Z hT => ?_) ?_
          rotate_left
          · go_simp
            rfl
          simp only [Act.put, List.setIfInBounds_toArray, List.set_cons_zero, List.set_cons_succ]
        exact RG.RunsIf.nil
      have M00 : Hid (wr.drew.heap[B]? = some (.cells (K .u32 hs) 23 (0, 0))) := G0.out
      have M10 : Hid (wr.drew.heap[B + 1]? = some (.cells (K .u32 (List.replicate 16 0)) 34 (0, 0))) := G1.out
      have M20 : Hid (wr.drew.heap[B + 1 + 1]? = some (.cells (K .u32 us) 34 (0, 0))) := G2.out
      have MB0 : Hid (Below B w wr.drew) := below_drewN GB.out 1
      have TT0 : Hid (wr.drew.cell? ⟨B, k, none⟩ = some (.int .u32 x) ∧ wr.drew.cell? ⟨0, k, none⟩ = some (.int .u32 y)) := HTT.out _ rfl
      clear G0 G1 G2 GB HTT
      generalize wr.drew = Y0 at *
      refine RG.wpL_step (i := 9) (by kernel_rfl) (by rfl) (by rfl) (fun K hK => ?_)
      have HK := TW.hide hK
      clear hK
      go_simp
      refine HK.out _ _ TT0.out (fun _ => trivial) ?_
      clear HK K
      have c := blk_cellK M20.out (i := k) (by (try simp only [List.length_set]); rw [HLEN.out]; omega)
      have f := blk_frozen M20.out (i := k)
      refine RG.wpL_step (i := 10) (by kernel_rfl) (by rfl) (by rfl) (fun K hK => ?_)
      have HK := TW.hide hK
      clear hK
      go_simp
      have M21 := TW.hide (blk_setK (i := k) (x := x) M20.out)
      have TT1 := TW.hide (And.intro ((cell_other (p := B + 1 + 1) (o := k) (u := .int .u32 x) (by omega)).trans TT0.out.1) ((cell_other (p := B + 1 + 1) (o := k) (u := .int .u32 x) (by omega)).trans TT0.out.2))
      have MB1 := TW.hide (MB0.out.setCell (p := ⟨B + 1 + 1, k, none⟩) (by simp; omega) (.int .u32 x))
      have M01 := TW.hide (blk_other (p := B + 1 + 1) (o := k) (u := .int .u32 x) M00.out (by omega))
      have M11 := TW.hide (blk_other (p := B + 1 + 1) (o := k) (u := .int .u32 x) M10.out (by omega))
      refine HK.out _ _ TT1.out (fun _ => trivial) ?_
      clear HK K c f M20 TT0 MB0 M00 M10
      generalize Y0.setCell ⟨B + 1 + 1, k, none⟩ (.int .u32 x) = Y1 at *
      refine RG.wpL_step (i := 11) (by kernel_rfl) (by rfl) (by rfl) (fun K hK => ?_)
      have HK := TW.hide hK
      clear hK
      go_simp
      refine HK.out _ _ TT1.out (fun _ => trivial) ?_
      clear HK K
      have c := blk_cellK M21.out (i := (k + 8)) (by (try simp only [List.length_set]); rw [HLEN.out]; omega)
      have f := blk_frozen M21.out (i := (k + 8))
      refine RG.wpL_step (i := 12) (by kernel_rfl) (by rfl) (by rfl) (fun K hK => ?_)
      have HK := TW.hide hK
      clear hK
      go_simp
      have M22 := TW.hide (blk_setK (i := (k + 8)) (x := y) M21.out)
      have TT2 := TW.hide (And.intro ((cell_other (p := B + 1 + 1) (o := (k + 8)) (u := .int .u32 y) (by omega)).trans TT1.out.1) ((cell_other (p := B + 1 + 1) (o := (k + 8)) (u := .int .u32 y) (by omega)).trans TT1.out.2))
      have MB2 := TW.hide (MB1.out.setCell (p := ⟨B + 1 + 1, (k + 8), none⟩) (by simp; omega) (.int .u32 y))
      have M02 := TW.hide (blk_other (p := B + 1 + 1) (o := (k + 8)) (u := .int .u32 y) M01.out (by omega))
      have M12 := TW.hide (blk_other (p := B + 1 + 1) (o := (k + 8)) (u := .int .u32 y) M11.out (by omega))
      refine HK.out _ _ TT2.out (fun _ => trivial) ?_
      clear HK K c f M21 TT1 MB1 M01 M11
      generalize Y1.setCell ⟨B + 1 + 1, (k + 8), none⟩ (.int .u32 y) = Y2 at *
      refine RG.wpL_done (by kernel_rfl) ?_ _
      refine NoPanic.normal ?_
      go_wp2
      go_roundw
      case rel =>
        refine ⟨k + 1, by omega, by go_num, M02.out, M12.out, ?_, MB2.out⟩
        rw [HS.out]
        exact M22.out
      case measure => simp [intOf]; omega
    · obtain rfl : k = 8 := by omega
      have HA := TW.hide a1
      clear a1 G0 G1 G2 GB
      rw [upto_full _ _ HL.out, upto_full _ _ ivL_length] at n2
      have H2 := TW.hide n1
      have H3 := TW.hide n2
      have HB := TW.hide hb
      clear n0 n1 n2 hb
      have hlo := HLO.out
      have hhi := HHI.out
      go_wp2
      refine HA.out _ _ ?_
      clear HA
      have sg : IntKind.u32.signed = false := rfl
      have mx : IntKind.u32.max = 4294967295 := rfl
      have hlen : (hs ++ ivL).length = 16 := by rw [List.length_append, HL.out]; rfl
      have HLE := TW.hide hlen
      clear hlen
      have c := blk_cellK H3.out (i := 12) (by have := HLE.out; omega)
      rw [init0_get hs 4 HL.out] at c
      have f := blk_frozen H3.out (i := 12)
      obtain ⟨q4, e⟩ : ∃ q, xo (ivL.getD 4 0) lo = q := ⟨_, rfl⟩
      have E0 := TW.hide e
      generalize ivL.getD 4 0 = y4 at c e
      (try unfold co at e)
      unfold xo at e
      refine wp_seq_k fun KK hK => ?_
      have HK := TW.hide hK
      clear hK
      go_wp2
      refine HK.out _ _ ?_
      clear HK KK
      clear c f e
      have m3 := blk_setK (i := 12) (x := q4) H3.out
      have m2 := blk_other (p := B + 1 + 1) (o := 12) (u := .int .u32 q4) H2.out (by omega)
      have mb := HB.out.setCell (p := ⟨B + 1 + 1, 12, none⟩) (by simp; omega) (.int .u32 q4)
      clear H2 H3 HB
      generalize wr.setCell ⟨B + 1 + 1, 12, none⟩ (.int .u32 q4) = w1 at *
      have H2 := TW.hide m2
      have H3 := TW.hide m3
      have HB := TW.hide mb
      clear m2 m3 mb
      rw [← E0.out] at H3
      clear E0
      have c := blk_cellK H3.out (i := 13) (by rw [List.length_set]; have := HLE.out; omega)
      rw [init1_get hs _ HL.out] at c
      have f := blk_frozen H3.out (i := 13)
      obtain ⟨q5, e⟩ : ∃ q, xo (ivL.getD 5 0) hi = q := ⟨_, rfl⟩
      have E0 := TW.hide e
      generalize ivL.getD 5 0 = y5 at c e
      (try unfold co at e)
      unfold xo at e
      refine wp_seq_k fun KK hK => ?_
      have HK := TW.hide hK
      clear hK
      go_wp2
      refine HK.out _ _ ?_
      clear HK KK
      clear c f e
      have m3 := blk_setK (i := 13) (x := q5) H3.out
      have m2 := blk_other (p := B + 1 + 1) (o := 13) (u := .int .u32 q5) H2.out (by omega)
      have mb := HB.out.setCell (p := ⟨B + 1 + 1, 13, none⟩) (by simp; omega) (.int .u32 q5)
      clear H2 H3 HB
      generalize w1.setCell ⟨B + 1 + 1, 13, none⟩ (.int .u32 q5) = w2 at *
      have H2 := TW.hide m2
      have H3 := TW.hide m3
      have HB := TW.hide mb
      clear m2 m3 mb
      rw [← E0.out] at H3
      clear E0
      change Hid (w2.heap[B + 1 + 1]? = some (.cells (K .u32 (init2 hs lo hi)) 34 (0, 0))) at H3
      cases la
      · refine wp_seq_k fun KK hK => ?_
        have HK := TW.hide hK
        clear hK
        go_wp2
        refine HK.out _ _ ?_
        clear HK KK
        change Hid (w2.heap[B + 1 + 1]? = some (.cells (K .u32 (init3 hs lo hi false)) 34 (0, 0))) at H3
        cases no
        · refine wp_seq_k fun KK hK => ?_
          have HK := TW.hide hK
          clear hK
          go_wp2
          refine HK.out _ _ ?_
          clear HK KK
          change Hid (w2.heap[B + 1 + 1]? = some (.cells (K .u32 (initL hs lo hi false false)) 34 (0, 0))) at H3
          have hI := TW.hide (info16 (initL hs lo hi false false) (initL_length hs lo hi false false HL.out))
          have hO := TW.hide (size16 (List.replicate 16 0) (initL hs lo hi false false) rfl (initL_length hs lo hi false false HL.out))
          go_wp2_with (first | (refine wpList_load_row (by rfl) 34 _ (by rfl) (B + 1 + 1) (by rfl) 34 (K .u32 (initL hs lo hi false false)) (0, 0) _ H3.out Tryd.underlying34 rfl hI.out ?_) | (refine wpList_store_row (by rfl) 34 _ _ (by rfl) (B + 1) (K .u32 (initL hs lo hi false false)) (by rfl) (by rfl) 34 _ H2.out hI.out hO.out (K_one _ _) ?_))
          refine bodyPost_ret (v := .agg (K .u32 (initL hs lo hi false false))) (results_cell_row (P := Tryd.prog) Tryd.results19 _ _ (B + 1) 34 (K .u32 (initL hs lo hi false false)) (0, 0) _ (by rfl) (setRow_heap _ _ _ _ _ _ H2.out) Tryd.underlying34 rfl hI.out) rfl ?_
          exact ⟨rfl, below_setRow HB.out (by omega)⟩
        · have c := blk_cellK H3.out (i := 15) (by rw [init3_length hs lo hi false HL.out]; omega)
          rw [init3_get hs lo hi false HL.out] at c
          have f := blk_frozen H3.out (i := 15)
          obtain ⟨q7, e⟩ : ∃ q, co (ivL.getD 7 0) = q := ⟨_, rfl⟩
          have E0 := TW.hide e
          generalize ivL.getD 7 0 = y7 at c e
          (try unfold co at e)
          unfold xo at e
          refine wp_seq_k fun KK hK => ?_
          have HK := TW.hide hK
          clear hK
          go_wp2
          refine HK.out _ _ ?_
          clear HK KK
          clear c f e
          have m3 := blk_setK (i := 15) (x := q7) H3.out
          have m2 := blk_other (p := B + 1 + 1) (o := 15) (u := .int .u32 q7) H2.out (by omega)
          have mb := HB.out.setCell (p := ⟨B + 1 + 1, 15, none⟩) (by simp; omega) (.int .u32 q7)
          clear H2 H3 HB
          generalize w2.setCell ⟨B + 1 + 1, 15, none⟩ (.int .u32 q7) = w5 at *
          have H2 := TW.hide m2
          have H3 := TW.hide m3
          have HB := TW.hide mb
          clear m2 m3 mb
          rw [← E0.out] at H3
          clear E0
          change Hid (w5.heap[B + 1 + 1]? = some (.cells (K .u32 (initL hs lo hi false true)) 34 (0, 0))) at H3
          have hI := TW.hide (info16 (initL hs lo hi false true) (initL_length hs lo hi false true HL.out))
          have hO := TW.hide (size16 (List.replicate 16 0) (initL hs lo hi false true) rfl (initL_length hs lo hi false true HL.out))
          go_wp2_with (first | (refine wpList_load_row (by rfl) 34 _ (by rfl) (B + 1 + 1) (by rfl) 34 (K .u32 (initL hs lo hi false true)) (0, 0) _ H3.out Tryd.underlying34 rfl hI.out ?_) | (refine wpList_store_row (by rfl) 34 _ _ (by rfl) (B + 1) (K .u32 (initL hs lo hi false true)) (by rfl) (by rfl) 34 _ H2.out hI.out hO.out (K_one _ _) ?_))
          refine bodyPost_ret (v := .agg (K .u32 (initL hs lo hi false true))) (results_cell_row (P := Tryd.prog) Tryd.results19 _ _ (B + 1) 34 (K .u32 (initL hs lo hi false true)) (0, 0) _ (by rfl) (setRow_heap _ _ _ _ _ _ H2.out) Tryd.underlying34 rfl hI.out) rfl ?_
          exact ⟨rfl, below_setRow HB.out (by omega)⟩
      · have c := blk_cellK H3.out (i := 14) (by rw [init2_length hs lo hi HL.out]; omega)
        rw [init2_get hs lo hi HL.out] at c
        have f := blk_frozen H3.out (i := 14)
        obtain ⟨q6, e⟩ : ∃ q, co (ivL.getD 6 0) = q := ⟨_, rfl⟩
        have E0 := TW.hide e
        generalize ivL.getD 6 0 = y6 at c e
        (try unfold co at e)
        unfold xo at e
        refine wp_seq_k fun KK hK => ?_
        have HK := TW.hide hK
        clear hK
        go_wp2
        refine HK.out _ _ ?_
        clear HK KK
        clear c f e
        have m3 := blk_setK (i := 14) (x := q6) H3.out
        have m2 := blk_other (p := B + 1 + 1) (o := 14) (u := .int .u32 q6) H2.out (by omega)
        have mb := HB.out.setCell (p := ⟨B + 1 + 1, 14, none⟩) (by simp; omega) (.int .u32 q6)
        clear H2 H3 HB
        generalize w2.setCell ⟨B + 1 + 1, 14, none⟩ (.int .u32 q6) = w3 at *
        have H2 := TW.hide m2
        have H3 := TW.hide m3
        have HB := TW.hide mb
        clear m2 m3 mb
        rw [← E0.out] at H3
        clear E0
        change Hid (w3.heap[B + 1 + 1]? = some (.cells (K .u32 (init3 hs lo hi true)) 34 (0, 0))) at H3
        cases no
        · refine wp_seq_k fun KK hK => ?_
          have HK := TW.hide hK
          clear hK
          go_wp2
          refine HK.out _ _ ?_
          clear HK KK
          change Hid (w3.heap[B + 1 + 1]? = some (.cells (K .u32 (initL hs lo hi true false)) 34 (0, 0))) at H3
          have hI := TW.hide (info16 (initL hs lo hi true false) (initL_length hs lo hi true false HL.out))
          have hO := TW.hide (size16 (List.replicate 16 0) (initL hs lo hi true false) rfl (initL_length hs lo hi true false HL.out))
          go_wp2_with (first | (refine wpList_load_row (by rfl) 34 _ (by rfl) (B + 1 + 1) (by rfl) 34 (K .u32 (initL hs lo hi true false)) (0, 0) _ H3.out Tryd.underlying34 rfl hI.out ?_) | (refine wpList_store_row (by rfl) 34 _ _ (by rfl) (B + 1) (K .u32 (initL hs lo hi true false)) (by rfl) (by rfl) 34 _ H2.out hI.out hO.out (K_one _ _) ?_))
          refine bodyPost_ret (v := .agg (K .u32 (initL hs lo hi true false))) (results_cell_row (P := Tryd.prog) Tryd.results19 _ _ (B + 1) 34 (K .u32 (initL hs lo hi true false)) (0, 0) _ (by rfl) (setRow_heap _ _ _ _ _ _ H2.out) Tryd.underlying34 rfl hI.out) rfl ?_
          exact ⟨rfl, below_setRow HB.out (by omega)⟩
        · have c := blk_cellK H3.out (i := 15) (by rw [init3_length hs lo hi true HL.out]; omega)
          rw [init3_get hs lo hi true HL.out] at c
          have f := blk_frozen H3.out (i := 15)
          obtain ⟨q7, e⟩ : ∃ q, co (ivL.getD 7 0) = q := ⟨_, rfl⟩
          have E0 := TW.hide e
          generalize ivL.getD 7 0 = y7 at c e
          (try unfold co at e)
          unfold xo at e
          refine wp_seq_k fun KK hK => ?_
          have HK := TW.hide hK
          clear hK
          go_wp2
          refine HK.out _ _ ?_
          clear HK KK
          clear c f e
          have m3 := blk_setK (i := 15) (x := q7) H3.out
          have m2 := blk_other (p := B + 1 + 1) (o := 15) (u := .int .u32 q7) H2.out (by omega)
          have mb := HB.out.setCell (p := ⟨B + 1 + 1, 15, none⟩) (by simp; omega) (.int .u32 q7)
          clear H2 H3 HB
          generalize w3.setCell ⟨B + 1 + 1, 15, none⟩ (.int .u32 q7) = w5 at *
          have H2 := TW.hide m2
          have H3 := TW.hide m3
          have HB := TW.hide mb
          clear m2 m3 mb
          rw [← E0.out] at H3
          clear E0
          change Hid (w5.heap[B + 1 + 1]? = some (.cells (K .u32 (initL hs lo hi true true)) 34 (0, 0))) at H3
          have hI := TW.hide (info16 (initL hs lo hi true true) (initL_length hs lo hi true true HL.out))
          have hO := TW.hide (size16 (List.replicate 16 0) (initL hs lo hi true true) rfl (initL_length hs lo hi true true HL.out))
          go_wp2_with (first | (refine wpList_load_row (by rfl) 34 _ (by rfl) (B + 1 + 1) (by rfl) 34 (K .u32 (initL hs lo hi true true)) (0, 0) _ H3.out Tryd.underlying34 rfl hI.out ?_) | (refine wpList_store_row (by rfl) 34 _ _ (by rfl) (B + 1) (K .u32 (initL hs lo hi true true)) (by rfl) (by rfl) 34 _ H2.out hI.out hO.out (K_one _ _) ?_))
          refine bodyPost_ret (v := .agg (K .u32 (initL hs lo hi true true))) (results_cell_row (P := Tryd.prog) Tryd.results19 _ _ (B + 1) 34 (K .u32 (initL hs lo hi true true)) (0, 0) _ (by rfl) (setRow_heap _ _ _ _ _ _ H2.out) Tryd.underlying34 rfl hI.out) rfl ?_
          exact ⟨rfl, below_setRow HB.out (by omega)⟩
set_option maxRecDepth 100000 in
set_option maxHeartbeats 4000000 in
theorem rbegin (hs : List Int) (n : Int) (la no : Bool) (w : World) (hl : hs.length = 8) (hw : Ws hs) (wn : 0 ≤ n) (wn' : n < 18446744073709551616) :
    Calls Tryd.prog 37 #[.agg (K .u32 hs), .int .u64 n, .bool la, .bool no] w fun e w' => e = .returned (.agg (K .u32 (beginL hs n la no))) ∧ Below w.heap.size w w' := by
  unfold beginL
  obtain ⟨lo, hlo⟩ : ∃ z, n % 4294967296 = z := ⟨_, rfl⟩
  obtain ⟨hi, hhi⟩ : ∃ z, n / 4294967296 = z := ⟨_, rfl⟩
  rw [hlo, hhi]
  have hb := ((((Below.refl w.heap.size w).alloc (Nat.le_refl _) (.cells (K .u32 hs) 23)).alloc (by simp; try omega) (.cells (K .u32 (List.replicate 16 0)) 34)).alloc (by simp; try omega) (.cells (K .u32 (List.replicate 16 0)) 34))
  have n0 := (blk_alloc (o' := .cells (K .u32 (List.replicate 16 0)) 34) (blk_alloc (o' := .cells (K .u32 (List.replicate 16 0)) 34) (heap_new w (.cells (K .u32 hs) 23))))
  have n1 := (blk_alloc (o' := .cells (K .u32 (List.replicate 16 0)) 34) (heap_new (w.alloc (.cells (K .u32 hs) 23)) (.cells (K .u32 (List.replicate 16 0)) 34)))
  rw [show (w.alloc (.cells (K .u32 hs) 23)).heap.size = w.heap.size + 1 by simp] at n1
  have n2 := (heap_new ((w.alloc (.cells (K .u32 hs) 23)).alloc (.cells (K .u32 (List.replicate 16 0)) 34)) (.cells (K .u32 (List.replicate 16 0)) 34))
  rw [show ((w.alloc (.cells (K .u32 hs) 23)).alloc (.cells (K .u32 (List.replicate 16 0)) 34)).heap.size = w.heap.size + 1 + 1 by simp] at n2
  have HL := TW.hide hl
  clear hl
  have HLO := TW.hide hlo
  have HHI := TW.hide hhi
  clear hlo hhi
  go_enter Tryd.func37, Tryd.ntmps37
  refine wp_seq_k fun K hK => ?_
  have HK := TW.hide hK
  clear hK
  go_wp2
  refine HK.out _ _ ?_
  clear HK K
  refine wp_seq_k fun K hK => ?_
  have HK := TW.hide hK
  clear hK
  go_wp2
  refine HK.out _ _ ?_
  clear HK K
  change Code.wp _ _ _ _ (((w.alloc (.cells (K .u32 hs) 23)).alloc (.cells (K .u32 (List.replicate 16 0)) 34)).alloc (.cells (K .u32 (List.replicate 16 0)) 34))
  generalize hWW : ((w.alloc (.cells (K .u32 hs) 23)).alloc (.cells (K .u32 (List.replicate 16 0)) 34)).alloc (.cells (K .u32 (List.replicate 16 0)) 34) = W at hb n0 n1 n2 ⊢
  have hW : W.heap.size = w.heap.size + 1 + 1 + 1 := by rw [← hWW]; simp
  clear hWW
  have hiv := riv W
  generalize hB : w.heap.size = B at *
  have HIV := TW.hide hiv
  have N0 := TW.hide n0
  have N1 := TW.hide n1
  have N2 := TW.hide n2
  have NB := TW.hide hb
  clear hiv n0 n1 n2 hb
  have hz8 := (show (#[.int .u32 0, .int .u32 0, .int .u32 0, .int .u32 0, .int .u32 0, .int .u32 0, .int .u32 0, .int .u32 0] : Array Value).size = (K .u32 ivL).size from rfl)
  have HZ8 := TW.hide hz8
  clear hz8
  refine wp_seq_k fun KK hK => ?_
  have HK := TW.hide hK
  clear hK
  go_wp2_with fail
  refine (HIV.out).mono ?_
  rintro e w1 ⟨rfl, hb1⟩
  have M0 := TW.hide (blk_keep N0.out hb1)
  have M1 := TW.hide (blk_keep N1.out hb1)
  have M2 := TW.hide (blk_keep N2.out hb1)
  have MB : Hid (Below B w w1) := below_row NB.out hb1 (by omega)
  have hwo : B + 1 + 1 < w1.heap.size := by have := blk_lt M2.out; omega
  clear hb1 N0 N1 N2 NB
  go_wp2_with (first | (refine wpList_store_row (by rfl) 23 _ _ (by rfl) w1.heap.size (K .u32 ivL) (by rfl) (by rfl) 23 _ (heap_new w1 _) (info8 ivL rfl) HZ8.out (K_one _ _) ?_))
  have nO := setRow_heap _ _ _ (K .u32 ivL) _ _ (heap_new w1 (.cells #[.int .u32 0, .int .u32 0, .int .u32 0, .int .u32 0, .int .u32 0, .int .u32 0, .int .u32 0, .int .u32 0] 23))
  have bO := below_setRow (cs := (K .u32 ivL)) ((Below.refl w1.heap.size w1).alloc (Nat.le_refl _) (.cells #[.int .u32 0, .int .u32 0, .int .u32 0, .int .u32 0, .int .u32 0, .int .u32 0, .int .u32 0, .int .u32 0] 23)) (g := w1.heap.size) (Nat.le_refl _)
  generalize (w1.alloc (.cells #[.int .u32 0, .int .u32 0, .int .u32 0, .int .u32 0, .int .u32 0, .int .u32 0, .int .u32 0, .int .u32 0] 23)).setRow w1.heap.size (K .u32 ivL) = X1 at nO bO ⊢
  refine HK.out _ _ ?_
  clear HK KK
  have N0 := TW.hide (blk_keep M0.out bO)
  have N1 := TW.hide (blk_keep M1.out bO)
  have N2 := TW.hide (blk_keep M2.out bO)
  have N3 := TW.hide nO
  have NB : Hid (Below B w X1) := below_row MB.out bO (by omega)
  clear bO nO M0 M1 M2 MB HIV
  generalize w1.heap.size = g at *
  clear hW hB
  go_wp2
  go_loopw [11] (fun i wr => ∃ k : Nat, k ≤ 8 ∧ i = .int .i64 k ∧ wr.heap[B]? = some (.cells (K .u32 hs) 23 (0, 0)) ∧ wr.heap[B + 1]? = some (.cells (K .u32 (List.replicate 16 0)) 34 (0, 0)) ∧ wr.heap[B + 1 + 1]? = some (.cells (K .u32 (upto hs 8 k ++ upto ivL 8 k)) 34 (0, 0)) ∧ wr.heap[g]? = some (.cells (K .u32 ivL) 23 (0, 0)) ∧ Below B w wr) (fun i _ => 8 - (intOf i).toNat)
  case atStart => exact ⟨0, Nat.zero_le _, rfl, N0.out, N1.out, by simpa [upto] using N2.out, N3.out, NB.out⟩
  case round =>
    rename_i Q1 K1 a1
    obtain ⟨k, hk, rfl, n0, n1, n2, n3, hb⟩ := hrel
    clear N0 N1 N2 N3 NB W
    have G0 := TW.hide n0
    have G1 := TW.hide n1
    have G2 := TW.hide n2
    have G3 := TW.hide n3
    have GB := TW.hide hb
    by_cases hlt : k < 8
    · have hul := upto_length hs 8 k HL.out hk
      have hu2 := upto_length ivL 8 k ivL_length hk
      have hsz : upto hs 8 (k + 1) ++ upto ivL 8 (k + 1) = ((upto hs 8 k ++ upto ivL 8 k).set k (hs.getD k 0)).set (k + 8) (ivL.getD k 0) := by
        rw [join_set _ _ k _ _ hul hlt, upto_set hs 8 k HL.out hlt, upto_set ivL 8 k ivL_length hlt]
      have hc0 := blk_cellK n0 (i := k) (by rw [HL.out]; exact hlt)
      have hc3 := blk_cellK n3 (i := k) (by rw [ivL_length]; exact hlt)
      have hlen : (upto hs 8 k ++ upto ivL 8 k).length = 16 := by rw [List.length_append, hul, hu2]
      generalize hs.getD k 0 = x at *
      generalize ivL.getD k 0 = y at *
      generalize hus : upto hs 8 k ++ upto ivL 8 k = us at *
      clear hus
      have HS := TW.hide hsz
      have HLEN := TW.hide hlen
      have hc2 := blk_cellK n2 (i := k) (by rw [HLEN.out]; omega)
      have hf2 := blk_frozen n2 (i := k)
      have HC3 := TW.hide hc3
      clear n0 n1 n2 n3 hb hsz hlen hul hu2 hc3
      have k0 : (0 : Int) ≤ (k : Int) := by omega
      have k1 : (k : Int) < 8 := by omega
      have k2 : (k : Int) < 16 := by omega
      have k3 : (k : Int) + 8 < 16 := by omega
      have k4 : (0 : Int) ≤ (k : Int) + 8 := by omega
      have hnk : IntKind.i64.wrap ((k : Int) + 8) = (k : Int) + 8 := by rw [IntKind.wrap_i64]; omega
      have hnt : ((k : Int) + 8).toNat = k + 8 := by omega
      have P0 := blk_other (p := B + 1 + 1) (o := k) (u := .int .u32 x) G0.out (by omega)
      have P1 := blk_other (p := B + 1 + 1) (o := k) (u := .int .u32 x) G1.out (by omega)
      have P2 := blk_setK (i := k) (x := x) G2.out
      have P3 := blk_other (p := B + 1 + 1) (o := k) (u := .int .u32 x) G3.out (by omega)
      have PB := GB.out.setCell (p := ⟨B + 1 + 1, k, none⟩) (by simp; omega) (.int .u32 x)
      have s3 := blk_cellK P3 (i := k) (by rw [ivL_length]; exact hlt)
      have s2 := blk_cellK P2 (i := k + 8) (by rw [List.length_set, HLEN.out]; omega)
      have sf := blk_frozen P2 (i := k + 8)
      have hyy := HC3.out
      have HS3 : Hid (ivL.getD k 0 = y) := by
        show _ = _
        have := (blk_cellK G3.out (i := k) (by rw [ivL_length]; exact hlt)).symm.trans hyy
        simpa using this
      rw [HS3.out] at s3
      have S2 := TW.hide s2
      have S3 := TW.hide s3
      have SF := TW.hide sf
      have HP0 := TW.hide P0
      have HP1 := TW.hide P1
      have HP2 := TW.hide P2
      have HP3 := TW.hide P3
      have HPB := TW.hide PB
      clear s2 s3 sf P0 P1 P2 P3 PB hyy
      generalize us.getD k 0 = z at *
      refine wp_seq_k fun KK hK => ?_
      have HK := TW.hide hK
      clear hK
      go_wp2
      refine HK.out _ _ ?_
      clear HK KK
      refine wp_seq_k fun KK hK => ?_
      have HK := TW.hide hK
      clear hK
      refine wp_block ?_
      refine wp_seq_k fun K2 hK2 => ?_
      have HK2 := TW.hide hK2
      clear hK2
      go_wp2
      refine HK2.out _ _ ?_
      clear HK2 K2 hc0 hc2 hf2
      generalize (us.set k x).getD (k + 8) 0 = z8 at *
      generalize wr.setCell ⟨B + 1 + 1, k, none⟩ (.int .u32 x) = w2 at *
      have s2 := S2.out
      have s3 := S3.out
      have sf := SF.out
      go_wp2
      refine HK.out _ _ ?_
      clear HK KK s2 s3 sf
      go_wp2
      go_roundw
      case rel =>
        refine ⟨k + 1, by omega, by go_num, blk_other HP0.out (by omega), blk_other HP1.out (by omega), ?_, blk_other HP3.out (by omega), HPB.out.setCell (by simp; omega) _⟩
        rw [HS.out]
        exact blk_setK HP2.out
      case measure => simp [intOf]; omega
    · obtain rfl : k = 8 := by omega
      have HA := TW.hide a1
      clear a1 G0 G1 G2 G3 GB
      rw [upto_full _ _ HL.out, upto_full _ _ ivL_length] at n2
      have H2 := TW.hide n1
      have H3 := TW.hide n2
      have HB := TW.hide hb
      clear n0 n1 n2 n3 hb
      have hlo := HLO.out
      have hhi := HHI.out
      go_wp2
      refine HA.out _ _ ?_
      clear HA
      have sg : IntKind.u32.signed = false := rfl
      have mx : IntKind.u32.max = 4294967295 := rfl
      have hlen : (hs ++ ivL).length = 16 := by rw [List.length_append, HL.out]; rfl
      have HLE := TW.hide hlen
      clear hlen
      have c := blk_cellK H3.out (i := 12) (by have := HLE.out; omega)
      rw [init0_get hs 4 HL.out] at c
      have f := blk_frozen H3.out (i := 12)
      obtain ⟨q4, e⟩ : ∃ q, xo (ivL.getD 4 0) lo = q := ⟨_, rfl⟩
      have E0 := TW.hide e
      generalize ivL.getD 4 0 = y4 at c e
      (try unfold co at e)
      unfold xo at e
      refine wp_seq_k fun KK hK => ?_
      have HK := TW.hide hK
      clear hK
      go_wp2
      refine HK.out _ _ ?_
      clear HK KK
      clear c f e
      have m3 := blk_setK (i := 12) (x := q4) H3.out
      have m2 := blk_other (p := B + 1 + 1) (o := 12) (u := .int .u32 q4) H2.out (by omega)
      have mb := HB.out.setCell (p := ⟨B + 1 + 1, 12, none⟩) (by simp; omega) (.int .u32 q4)
      clear H2 H3 HB
      generalize wr.setCell ⟨B + 1 + 1, 12, none⟩ (.int .u32 q4) = w1 at *
      have H2 := TW.hide m2
      have H3 := TW.hide m3
      have HB := TW.hide mb
      clear m2 m3 mb
      rw [← E0.out] at H3
      clear E0
      have c := blk_cellK H3.out (i := 13) (by rw [List.length_set]; have := HLE.out; omega)
      rw [init1_get hs _ HL.out] at c
      have f := blk_frozen H3.out (i := 13)
      obtain ⟨q5, e⟩ : ∃ q, xo (ivL.getD 5 0) hi = q := ⟨_, rfl⟩
      have E0 := TW.hide e
      generalize ivL.getD 5 0 = y5 at c e
      (try unfold co at e)
      unfold xo at e
      refine wp_seq_k fun KK hK => ?_
      have HK := TW.hide hK
      clear hK
      go_wp2
      refine HK.out _ _ ?_
      clear HK KK
      clear c f e
      have m3 := blk_setK (i := 13) (x := q5) H3.out
      have m2 := blk_other (p := B + 1 + 1) (o := 13) (u := .int .u32 q5) H2.out (by omega)
      have mb := HB.out.setCell (p := ⟨B + 1 + 1, 13, none⟩) (by simp; omega) (.int .u32 q5)
      clear H2 H3 HB
      generalize w1.setCell ⟨B + 1 + 1, 13, none⟩ (.int .u32 q5) = w2 at *
      have H2 := TW.hide m2
      have H3 := TW.hide m3
      have HB := TW.hide mb
      clear m2 m3 mb
      rw [← E0.out] at H3
      clear E0
      change Hid (w2.heap[B + 1 + 1]? = some (.cells (K .u32 (init2 hs lo hi)) 34 (0, 0))) at H3
      cases la
      · refine wp_seq_k fun KK hK => ?_
        have HK := TW.hide hK
        clear hK
        go_wp2
        refine HK.out _ _ ?_
        clear HK KK
        change Hid (w2.heap[B + 1 + 1]? = some (.cells (K .u32 (init3 hs lo hi false)) 34 (0, 0))) at H3
        cases no
        · refine wp_seq_k fun KK hK => ?_
          have HK := TW.hide hK
          clear hK
          go_wp2
          refine HK.out _ _ ?_
          clear HK KK
          change Hid (w2.heap[B + 1 + 1]? = some (.cells (K .u32 (initL hs lo hi false false)) 34 (0, 0))) at H3
          have hI := TW.hide (info16 (initL hs lo hi false false) (initL_length hs lo hi false false HL.out))
          have hO := TW.hide (size16 (List.replicate 16 0) (initL hs lo hi false false) rfl (initL_length hs lo hi false false HL.out))
          go_wp2_with (first | (refine wpList_load_row (by rfl) 34 _ (by rfl) (B + 1 + 1) (by rfl) 34 (K .u32 (initL hs lo hi false false)) (0, 0) _ H3.out Tryd.underlying34 rfl hI.out ?_) | (refine wpList_store_row (by rfl) 34 _ _ (by rfl) (B + 1) (K .u32 (initL hs lo hi false false)) (by rfl) (by rfl) 34 _ H2.out hI.out hO.out (K_one _ _) ?_))
          refine bodyPost_ret (v := .agg (K .u32 (initL hs lo hi false false))) (results_cell_row (P := Tryd.prog) Tryd.results37 _ _ (B + 1) 34 (K .u32 (initL hs lo hi false false)) (0, 0) _ (by rfl) (setRow_heap _ _ _ _ _ _ H2.out) Tryd.underlying34 rfl hI.out) rfl ?_
          exact ⟨rfl, below_setRow HB.out (by omega)⟩
        · have c := blk_cellK H3.out (i := 15) (by rw [init3_length hs lo hi false HL.out]; omega)
          rw [init3_get hs lo hi false HL.out] at c
          have f := blk_frozen H3.out (i := 15)
          obtain ⟨q7, e⟩ : ∃ q, co (ivL.getD 7 0) = q := ⟨_, rfl⟩
          have E0 := TW.hide e
          generalize ivL.getD 7 0 = y7 at c e
          (try unfold co at e)
          rw [xo_comm] at e
          unfold xo at e
          refine wp_seq_k fun KK hK => ?_
          have HK := TW.hide hK
          clear hK
          go_wp2
          refine HK.out _ _ ?_
          clear HK KK
          clear c f e
          have m3 := blk_setK (i := 15) (x := q7) H3.out
          have m2 := blk_other (p := B + 1 + 1) (o := 15) (u := .int .u32 q7) H2.out (by omega)
          have mb := HB.out.setCell (p := ⟨B + 1 + 1, 15, none⟩) (by simp; omega) (.int .u32 q7)
          clear H2 H3 HB
          generalize w2.setCell ⟨B + 1 + 1, 15, none⟩ (.int .u32 q7) = w5 at *
          have H2 := TW.hide m2
          have H3 := TW.hide m3
          have HB := TW.hide mb
          clear m2 m3 mb
          rw [← E0.out] at H3
          clear E0
          change Hid (w5.heap[B + 1 + 1]? = some (.cells (K .u32 (initL hs lo hi false true)) 34 (0, 0))) at H3
          have hI := TW.hide (info16 (initL hs lo hi false true) (initL_length hs lo hi false true HL.out))
          have hO := TW.hide (size16 (List.replicate 16 0) (initL hs lo hi false true) rfl (initL_length hs lo hi false true HL.out))
          go_wp2_with (first | (refine wpList_load_row (by rfl) 34 _ (by rfl) (B + 1 + 1) (by rfl) 34 (K .u32 (initL hs lo hi false true)) (0, 0) _ H3.out Tryd.underlying34 rfl hI.out ?_) | (refine wpList_store_row (by rfl) 34 _ _ (by rfl) (B + 1) (K .u32 (initL hs lo hi false true)) (by rfl) (by rfl) 34 _ H2.out hI.out hO.out (K_one _ _) ?_))
          refine bodyPost_ret (v := .agg (K .u32 (initL hs lo hi false true))) (results_cell_row (P := Tryd.prog) Tryd.results37 _ _ (B + 1) 34 (K .u32 (initL hs lo hi false true)) (0, 0) _ (by rfl) (setRow_heap _ _ _ _ _ _ H2.out) Tryd.underlying34 rfl hI.out) rfl ?_
          exact ⟨rfl, below_setRow HB.out (by omega)⟩
      · have c := blk_cellK H3.out (i := 14) (by rw [init2_length hs lo hi HL.out]; omega)
        rw [init2_get hs lo hi HL.out] at c
        have f := blk_frozen H3.out (i := 14)
        obtain ⟨q6, e⟩ : ∃ q, co (ivL.getD 6 0) = q := ⟨_, rfl⟩
        have E0 := TW.hide e
        generalize ivL.getD 6 0 = y6 at c e
        (try unfold co at e)
        rw [xo_comm] at e
        unfold xo at e
        refine wp_seq_k fun KK hK => ?_
        have HK := TW.hide hK
        clear hK
        go_wp2
        refine HK.out _ _ ?_
        clear HK KK
        clear c f e
        have m3 := blk_setK (i := 14) (x := q6) H3.out
        have m2 := blk_other (p := B + 1 + 1) (o := 14) (u := .int .u32 q6) H2.out (by omega)
        have mb := HB.out.setCell (p := ⟨B + 1 + 1, 14, none⟩) (by simp; omega) (.int .u32 q6)
        clear H2 H3 HB
        generalize w2.setCell ⟨B + 1 + 1, 14, none⟩ (.int .u32 q6) = w3 at *
        have H2 := TW.hide m2
        have H3 := TW.hide m3
        have HB := TW.hide mb
        clear m2 m3 mb
        rw [← E0.out] at H3
        clear E0
        change Hid (w3.heap[B + 1 + 1]? = some (.cells (K .u32 (init3 hs lo hi true)) 34 (0, 0))) at H3
        cases no
        · refine wp_seq_k fun KK hK => ?_
          have HK := TW.hide hK
          clear hK
          go_wp2
          refine HK.out _ _ ?_
          clear HK KK
          change Hid (w3.heap[B + 1 + 1]? = some (.cells (K .u32 (initL hs lo hi true false)) 34 (0, 0))) at H3
          have hI := TW.hide (info16 (initL hs lo hi true false) (initL_length hs lo hi true false HL.out))
          have hO := TW.hide (size16 (List.replicate 16 0) (initL hs lo hi true false) rfl (initL_length hs lo hi true false HL.out))
          go_wp2_with (first | (refine wpList_load_row (by rfl) 34 _ (by rfl) (B + 1 + 1) (by rfl) 34 (K .u32 (initL hs lo hi true false)) (0, 0) _ H3.out Tryd.underlying34 rfl hI.out ?_) | (refine wpList_store_row (by rfl) 34 _ _ (by rfl) (B + 1) (K .u32 (initL hs lo hi true false)) (by rfl) (by rfl) 34 _ H2.out hI.out hO.out (K_one _ _) ?_))
          refine bodyPost_ret (v := .agg (K .u32 (initL hs lo hi true false))) (results_cell_row (P := Tryd.prog) Tryd.results37 _ _ (B + 1) 34 (K .u32 (initL hs lo hi true false)) (0, 0) _ (by rfl) (setRow_heap _ _ _ _ _ _ H2.out) Tryd.underlying34 rfl hI.out) rfl ?_
          exact ⟨rfl, below_setRow HB.out (by omega)⟩
        · have c := blk_cellK H3.out (i := 15) (by rw [init3_length hs lo hi true HL.out]; omega)
          rw [init3_get hs lo hi true HL.out] at c
          have f := blk_frozen H3.out (i := 15)
          obtain ⟨q7, e⟩ : ∃ q, co (ivL.getD 7 0) = q := ⟨_, rfl⟩
          have E0 := TW.hide e
          generalize ivL.getD 7 0 = y7 at c e
          (try unfold co at e)
          rw [xo_comm] at e
          unfold xo at e
          refine wp_seq_k fun KK hK => ?_
          have HK := TW.hide hK
          clear hK
          go_wp2
          refine HK.out _ _ ?_
          clear HK KK
          clear c f e
          have m3 := blk_setK (i := 15) (x := q7) H3.out
          have m2 := blk_other (p := B + 1 + 1) (o := 15) (u := .int .u32 q7) H2.out (by omega)
          have mb := HB.out.setCell (p := ⟨B + 1 + 1, 15, none⟩) (by simp; omega) (.int .u32 q7)
          clear H2 H3 HB
          generalize w3.setCell ⟨B + 1 + 1, 15, none⟩ (.int .u32 q7) = w5 at *
          have H2 := TW.hide m2
          have H3 := TW.hide m3
          have HB := TW.hide mb
          clear m2 m3 mb
          rw [← E0.out] at H3
          clear E0
          change Hid (w5.heap[B + 1 + 1]? = some (.cells (K .u32 (initL hs lo hi true true)) 34 (0, 0))) at H3
          have hI := TW.hide (info16 (initL hs lo hi true true) (initL_length hs lo hi true true HL.out))
          have hO := TW.hide (size16 (List.replicate 16 0) (initL hs lo hi true true) rfl (initL_length hs lo hi true true HL.out))
          go_wp2_with (first | (refine wpList_load_row (by rfl) 34 _ (by rfl) (B + 1 + 1) (by rfl) 34 (K .u32 (initL hs lo hi true true)) (0, 0) _ H3.out Tryd.underlying34 rfl hI.out ?_) | (refine wpList_store_row (by rfl) 34 _ _ (by rfl) (B + 1) (K .u32 (initL hs lo hi true true)) (by rfl) (by rfl) 34 _ H2.out hI.out hO.out (K_one _ _) ?_))
          refine bodyPost_ret (v := .agg (K .u32 (initL hs lo hi true true))) (results_cell_row (P := Tryd.prog) Tryd.results37 _ _ (B + 1) 34 (K .u32 (initL hs lo hi true true)) (0, 0) _ (by rfl) (setRow_heap _ _ _ _ _ _ H2.out) Tryd.underlying34 rfl hI.out) rfl ?_
          exact ⟨rfl, below_setRow HB.out (by omega)⟩
end MX
end Go.Proofs.YtecepllidmkmhabDoor
