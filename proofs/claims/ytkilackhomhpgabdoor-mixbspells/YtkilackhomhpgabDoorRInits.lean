/-
  What the call Init (the document) gives, for all states, counts and flags.
-/
import Derived.Test.YtkilackhomhpgabDoorInits
namespace Go.Proofs.YtkilackhomhpgabDoor
open Go.RowKit
set_option linter.unusedVariables false
set_option linter.unusedSimpArgs false
namespace MX
open Turn
attribute [local go_sem ↓] Go.wp_at_zero Go.wp_at_succ
set_option maxRecDepth 100000 in
set_option maxHeartbeats 4000000 in
theorem rinit (hs : List Int) (lo hi : Int) (la no : Bool) (w : World) (hl : hs.length = 8) (hw : Ws hs) (wl : W lo) (wh : W hi) :
    Calls Tryd.prog 7 #[.agg (K .u64 hs), .int .u64 lo, .int .u64 hi, .bool la, .bool no] w fun e w' => e = .returned (.agg (K .u64 (initL hs lo hi la no))) ∧ Below w.heap.size w w' := by
  have hb := ((((Below.refl w.heap.size w).alloc (Nat.le_refl _) (.cells (K .u64 hs) 23)).alloc (by simp; try omega) (.cells (K .u64 (List.replicate 16 0)) 24)).alloc (by simp; try omega) (.cells (K .u64 (List.replicate 16 0)) 24))
  have n0 := (blk_alloc (o' := .cells (K .u64 (List.replicate 16 0)) 24) (blk_alloc (o' := .cells (K .u64 (List.replicate 16 0)) 24) (heap_new w (.cells (K .u64 hs) 23))))
  have n1 := (blk_alloc (o' := .cells (K .u64 (List.replicate 16 0)) 24) (heap_new (w.alloc (.cells (K .u64 hs) 23)) (.cells (K .u64 (List.replicate 16 0)) 24)))
  rw [show (w.alloc (.cells (K .u64 hs) 23)).heap.size = w.heap.size + 1 by simp] at n1
  have n2 := (heap_new ((w.alloc (.cells (K .u64 hs) 23)).alloc (.cells (K .u64 (List.replicate 16 0)) 24)) (.cells (K .u64 (List.replicate 16 0)) 24))
  rw [show ((w.alloc (.cells (K .u64 hs) 23)).alloc (.cells (K .u64 (List.replicate 16 0)) 24)).heap.size = w.heap.size + 1 + 1 by simp] at n2
  have HL := TW.hide hl
  have HIV := TW.hide (fun (i : Nat) X (h : i < 8) => riv i X h)
  clear hl
  go_enter Tryd.func7, Tryd.ntmps7
  refine wp_seq_k fun K hK => ?_
  have HK := TW.hide hK
  clear hK
  go_wp2
  refine HK.out _ _ ?_
  clear HK K
  refine wp_seq_k fun K hK => ?_
  have HK := TW.hide hK
  clear hK
  go_wp2
  refine HK.out _ _ ?_
  clear HK K
  change Code.wp _ _ _ _ (((w.alloc (.cells (K .u64 hs) 23)).alloc (.cells (K .u64 (List.replicate 16 0)) 24)).alloc (.cells (K .u64 (List.replicate 16 0)) 24))
  generalize hWW : ((w.alloc (.cells (K .u64 hs) 23)).alloc (.cells (K .u64 (List.replicate 16 0)) 24)).alloc (.cells (K .u64 (List.replicate 16 0)) 24) = W at hb n0 n1 n2 ⊢
  have hW : W.heap.size = w.heap.size + 1 + 1 + 1 := by rw [← hWW]; simp
  clear hWW
  generalize hB : w.heap.size = B at *
  have HBB := TW.hide hB
  clear hB
  have N0 := TW.hide n0
  have N1 := TW.hide n1
  have N2 := TW.hide n2
  have NB := TW.hide hb
  clear n0 n1 n2 hb
  clear hW
  go_wp2
  go_loopw [12] (fun i wr => ∃ k : Nat, k ≤ 8 ∧ i = .int .i64 k ∧ wr.heap[B]? = some (.cells (K .u64 hs) 23 (0, 0)) ∧ wr.heap[B + 1]? = some (.cells (K .u64 (List.replicate 16 0)) 24 (0, 0)) ∧ wr.heap[B + 1 + 1]? = some (.cells (K .u64 (upto hs 8 k ++ upto ivL 8 k)) 24 (0, 0)) ∧ Below B w wr) (fun i _ => 8 - (intOf i).toNat)
  case atStart => exact ⟨0, Nat.zero_le _, rfl, N0.out, N1.out, by simpa [upto] using N2.out, NB.out⟩
  case round =>
    rename_i Q1 K1 a1
    obtain ⟨k, hk, rfl, n0, n1, n2, hb⟩ := hrel
    clear N0 N1 N2 NB W
    by_cases hlt : k < 8
    · have hul := upto_length hs 8 k HL.out hk
      have hu2 := upto_length ivL 8 k ivL_length hk
      have hsz : upto hs 8 (k + 1) ++ upto ivL 8 (k + 1) = ((upto hs 8 k ++ upto ivL 8 k).set k (hs.getD k 0)).set (k + 8) (ivL.getD k 0) := by
        rw [join_set _ _ k _ _ hul hlt, upto_set hs 8 k HL.out hlt, upto_set ivL 8 k ivL_length hlt]
      have hc0 := blk_cellK n0 (i := k) (by rw [HL.out]; exact hlt)
      have hlen : (upto hs 8 k ++ upto ivL 8 k).length = 16 := by rw [List.length_append, hul, hu2]
      have hiv := fun X => HIV.out k X hlt
      generalize hs.getD k 0 = x at *
      generalize ivL.getD k 0 = y at *
      generalize hus : upto hs 8 k ++ upto ivL 8 k = us at *
      clear hus
      have HS := TW.hide hsz
      have HLEN := TW.hide hlen
      have HV := TW.hide hiv
      have H0 := TW.hide n0
      have H2 := TW.hide n1
      have H3 := TW.hide n2
      have HB := TW.hide hb
      have c := blk_cellK n2 (i := k) (by omega)
      have f := blk_frozen n2 (i := k)
      clear n0 n1 n2 hb hsz hlen hul hu2 hiv
      have k0 : (0 : Int) ≤ (k : Int) := by omega
      have k1 : (k : Int) < 8 := by omega
      have k2 : (k : Int) < 16 := by omega
      have k3 : (k : Int) + 8 < 16 := by omega
      have k4 : (0 : Int) ≤ (k : Int) + 8 := by omega
      have hnk : IntKind.i64.wrap ((k : Int) + 8) = (k : Int) + 8 := by rw [IntKind.wrap_i64]; omega
      have hnt : ((k : Int) + 8).toNat = k + 8 := by omega
      go_wp2_with fail
      clear c f hc0
      have m3 := blk_setK (i := k) (x := x) H3.out
      have mH0 := blk_other (p := B + 1 + 1) (o := k) (u := .int .u64 x) H0.out (by omega)
      have mH2 := blk_other (p := B + 1 + 1) (o := k) (u := .int .u64 x) H2.out (by omega)
      have mb := HB.out.setCell (p := ⟨B + 1 + 1, k, none⟩) (by simp; try omega) (.int .u64 x)
      clear H0 H2 H3 HB
      generalize wr.setCell ⟨B + 1 + 1, k, none⟩ (.int .u64 x) = w1 at *
      have H0 := TW.hide mH0
      have H2 := TW.hide mH2
      have H3 := TW.hide m3
      have HB := TW.hide mb
      clear mH0 mH2 m3 mb
      refine (HV.out _).mono ?_
      rintro e w2 ⟨rfl, hb2⟩
      have M0 := TW.hide (blk_keep H0.out hb2)
      have M2 := TW.hide (blk_keep H2.out hb2)
      have m3 := blk_keep H3.out hb2
      have MB : Hid (Below B w w2) := below_row HB.out hb2 (by have := blk_lt H0.out; omega)
      have c := blk_cellK m3 (i := k + 8) (by rw [List.length_set, HLEN.out]; omega)
      have f := blk_frozen m3 (i := k + 8)
      have M3 := TW.hide m3
      clear hb2 m3 H0 H2 H3 HB
      go_wp2
      go_roundw
      case rel =>
        refine ⟨k + 1, by omega, by go_num, blk_other M0.out (by omega), blk_other M2.out (by omega), ?_, MB.out.setCell (by simp; omega) _⟩
        rw [HS.out]; exact blk_setK M3.out
      case measure => simp [intOf]; omega
    · obtain rfl : k = 8 := by omega
      have HA := TW.hide a1
      clear a1
      rw [upto_full _ _ HL.out, upto_full _ _ ivL_length] at n2
      have H2 := TW.hide n1
      have H3 := TW.hide n2
      have HB := TW.hide hb
      clear n0 n1 n2 hb
      go_wp2
      refine HA.out _ _ ?_
      clear HA
      have sg : IntKind.u64.signed = false := rfl
      have mx : IntKind.u64.max = 18446744073709551615 := rfl
      have hlen : (hs ++ ivL).length = 16 := by rw [List.length_append, HL.out]; rfl
      have HLE := TW.hide hlen
      clear hlen
      have c := blk_cellK H3.out (i := 12) (by have := HLE.out; omega)
      rw [init0_get hs 4 HL.out] at c
      have f := blk_frozen H3.out (i := 12)
      obtain ⟨q4, e⟩ : ∃ q, xo (ivL.getD 4 0) lo = q := ⟨_, rfl⟩
      have E0 := TW.hide e
      generalize ivL.getD 4 0 = y4 at c e
      (try unfold co at e)
      unfold xo at e
      refine wp_seq_k fun KK hK => ?_
      have HK := TW.hide hK
      clear hK
      go_wp2
      refine HK.out _ _ ?_
      clear HK KK
      clear c f e
      have m3 := blk_setK (i := 12) (x := q4) H3.out
      have mH2 := blk_other (p := B + 1 + 1) (o := 12) (u := .int .u64 q4) H2.out (by omega)
      have mb := HB.out.setCell (p := ⟨B + 1 + 1, 12, none⟩) (by simp; try omega) (.int .u64 q4)
      clear H2 H3 HB
      generalize wr.setCell ⟨B + 1 + 1, 12, none⟩ (.int .u64 q4) = w1 at *
      have H2 := TW.hide mH2
      have H3 := TW.hide m3
      have HB := TW.hide mb
      clear mH2 m3 mb
      rw [← E0.out] at H3
      clear E0
      have c := blk_cellK H3.out (i := 13) (by rw [List.length_set]; have := HLE.out; omega)
      rw [init1_get hs _ HL.out] at c
      have f := blk_frozen H3.out (i := 13)
      obtain ⟨q5, e⟩ : ∃ q, xo (ivL.getD 5 0) hi = q := ⟨_, rfl⟩
      have E0 := TW.hide e
      generalize ivL.getD 5 0 = y5 at c e
      (try unfold co at e)
      unfold xo at e
      refine wp_seq_k fun KK hK => ?_
      have HK := TW.hide hK
      clear hK
      go_wp2
      refine HK.out _ _ ?_
      clear HK KK
      clear c f e
      have m3 := blk_setK (i := 13) (x := q5) H3.out
      have mH2 := blk_other (p := B + 1 + 1) (o := 13) (u := .int .u64 q5) H2.out (by omega)
      have mb := HB.out.setCell (p := ⟨B + 1 + 1, 13, none⟩) (by simp; try omega) (.int .u64 q5)
      clear H2 H3 HB
      generalize w1.setCell ⟨B + 1 + 1, 13, none⟩ (.int .u64 q5) = w2 at *
      have H2 := TW.hide mH2
      have H3 := TW.hide m3
      have HB := TW.hide mb
      clear mH2 m3 mb
      rw [← E0.out] at H3
      clear E0
      change Hid (w2.heap[B + 1 + 1]? = some (.cells (K .u64 (init2 hs lo hi)) 24 (0, 0))) at H3
      cases la
      · refine wp_seq_k fun KK hK => ?_
        have HK := TW.hide hK
        clear hK
        go_wp2
        refine HK.out _ _ ?_
        clear HK KK
        change Hid (w2.heap[B + 1 + 1]? = some (.cells (K .u64 (init3 hs lo hi false)) 24 (0, 0))) at H3
        cases no
        · refine wp_seq_k fun KK hK => ?_
          have HK := TW.hide hK
          clear hK
          go_wp2
          refine HK.out _ _ ?_
          clear HK KK
          change Hid (w2.heap[B + 1 + 1]? = some (.cells (K .u64 (initL hs lo hi false false)) 24 (0, 0))) at H3
          have hI := TW.hide (info31 (initL hs lo hi false false) (initL_length hs lo hi false false HL.out))
          have hO := TW.hide (size16 (List.replicate 16 0) (initL hs lo hi false false) rfl (initL_length hs lo hi false false HL.out))
          go_wp2_with (first | (refine wpList_load_row (by rfl) 24 _ (by rfl) (B + 1 + 1) (by rfl) 24 (K .u64 (initL hs lo hi false false)) (0, 0) _ H3.out Tryd.underlying24 rfl hI.out ?_) | (refine wpList_store_row (by rfl) 24 _ _ (by rfl) (B + 1) (K .u64 (initL hs lo hi false false)) (by rfl) (by rfl) 24 _ H2.out hI.out hO.out (K_one _ _) ?_))
          refine bodyPost_ret (v := .agg (K .u64 (initL hs lo hi false false))) (results_cell_row (P := Tryd.prog) Tryd.results7 _ _ (B + 1) 24 (K .u64 (initL hs lo hi false false)) (0, 0) _ (by rfl) (setRow_heap _ _ _ _ _ _ H2.out) Tryd.underlying24 rfl hI.out) rfl ?_
          exact ⟨rfl, below_setRow HB.out (by omega)⟩
        · have c := blk_cellK H3.out (i := 15) (by rw [init3_length hs lo hi false HL.out]; omega)
          rw [init3_get hs lo hi false HL.out] at c
          have f := blk_frozen H3.out (i := 15)
          obtain ⟨q7, e⟩ : ∃ q, co (ivL.getD 7 0) = q := ⟨_, rfl⟩
          have E0 := TW.hide e
          generalize ivL.getD 7 0 = y7 at c e
          (try unfold co at e)
          unfold xo at e
          refine wp_seq_k fun KK hK => ?_
          have HK := TW.hide hK
          clear hK
          go_wp2
          refine HK.out _ _ ?_
          clear HK KK
          clear c f e
          have m3 := blk_setK (i := 15) (x := q7) H3.out
          have mH2 := blk_other (p := B + 1 + 1) (o := 15) (u := .int .u64 q7) H2.out (by omega)
          have mb := HB.out.setCell (p := ⟨B + 1 + 1, 15, none⟩) (by simp; try omega) (.int .u64 q7)
          clear H2 H3 HB
          generalize w2.setCell ⟨B + 1 + 1, 15, none⟩ (.int .u64 q7) = w5 at *
          have H2 := TW.hide mH2
          have H3 := TW.hide m3
          have HB := TW.hide mb
          clear mH2 m3 mb
          rw [← E0.out] at H3
          clear E0
          change Hid (w5.heap[B + 1 + 1]? = some (.cells (K .u64 (initL hs lo hi false true)) 24 (0, 0))) at H3
          have hI := TW.hide (info31 (initL hs lo hi false true) (initL_length hs lo hi false true HL.out))
          have hO := TW.hide (size16 (List.replicate 16 0) (initL hs lo hi false true) rfl (initL_length hs lo hi false true HL.out))
          go_wp2_with (first | (refine wpList_load_row (by rfl) 24 _ (by rfl) (B + 1 + 1) (by rfl) 24 (K .u64 (initL hs lo hi false true)) (0, 0) _ H3.out Tryd.underlying24 rfl hI.out ?_) | (refine wpList_store_row (by rfl) 24 _ _ (by rfl) (B + 1) (K .u64 (initL hs lo hi false true)) (by rfl) (by rfl) 24 _ H2.out hI.out hO.out (K_one _ _) ?_))
          refine bodyPost_ret (v := .agg (K .u64 (initL hs lo hi false true))) (results_cell_row (P := Tryd.prog) Tryd.results7 _ _ (B + 1) 24 (K .u64 (initL hs lo hi false true)) (0, 0) _ (by rfl) (setRow_heap _ _ _ _ _ _ H2.out) Tryd.underlying24 rfl hI.out) rfl ?_
          exact ⟨rfl, below_setRow HB.out (by omega)⟩
      · have c := blk_cellK H3.out (i := 14) (by rw [init2_length hs lo hi HL.out]; omega)
        rw [init2_get hs lo hi HL.out] at c
        have f := blk_frozen H3.out (i := 14)
        obtain ⟨q6, e⟩ : ∃ q, co (ivL.getD 6 0) = q := ⟨_, rfl⟩
        have E0 := TW.hide e
        generalize ivL.getD 6 0 = y6 at c e
        (try unfold co at e)
        unfold xo at e
        refine wp_seq_k fun KK hK => ?_
        have HK := TW.hide hK
        clear hK
        go_wp2
        refine HK.out _ _ ?_
        clear HK KK
        clear c f e
        have m3 := blk_setK (i := 14) (x := q6) H3.out
        have mH2 := blk_other (p := B + 1 + 1) (o := 14) (u := .int .u64 q6) H2.out (by omega)
        have mb := HB.out.setCell (p := ⟨B + 1 + 1, 14, none⟩) (by simp; try omega) (.int .u64 q6)
        clear H2 H3 HB
        generalize w2.setCell ⟨B + 1 + 1, 14, none⟩ (.int .u64 q6) = w3 at *
        have H2 := TW.hide mH2
        have H3 := TW.hide m3
        have HB := TW.hide mb
        clear mH2 m3 mb
        rw [← E0.out] at H3
        clear E0
        change Hid (w3.heap[B + 1 + 1]? = some (.cells (K .u64 (init3 hs lo hi true)) 24 (0, 0))) at H3
        cases no
        · refine wp_seq_k fun KK hK => ?_
          have HK := TW.hide hK
          clear hK
          go_wp2
          refine HK.out _ _ ?_
          clear HK KK
          change Hid (w3.heap[B + 1 + 1]? = some (.cells (K .u64 (initL hs lo hi true false)) 24 (0, 0))) at H3
          have hI := TW.hide (info31 (initL hs lo hi true false) (initL_length hs lo hi true false HL.out))
          have hO := TW.hide (size16 (List.replicate 16 0) (initL hs lo hi true false) rfl (initL_length hs lo hi true false HL.out))
          go_wp2_with (first | (refine wpList_load_row (by rfl) 24 _ (by rfl) (B + 1 + 1) (by rfl) 24 (K .u64 (initL hs lo hi true false)) (0, 0) _ H3.out Tryd.underlying24 rfl hI.out ?_) | (refine wpList_store_row (by rfl) 24 _ _ (by rfl) (B + 1) (K .u64 (initL hs lo hi true false)) (by rfl) (by rfl) 24 _ H2.out hI.out hO.out (K_one _ _) ?_))
          refine bodyPost_ret (v := .agg (K .u64 (initL hs lo hi true false))) (results_cell_row (P := Tryd.prog) Tryd.results7 _ _ (B + 1) 24 (K .u64 (initL hs lo hi true false)) (0, 0) _ (by rfl) (setRow_heap _ _ _ _ _ _ H2.out) Tryd.underlying24 rfl hI.out) rfl ?_
          exact ⟨rfl, below_setRow HB.out (by omega)⟩
        · have c := blk_cellK H3.out (i := 15) (by rw [init3_length hs lo hi true HL.out]; omega)
          rw [init3_get hs lo hi true HL.out] at c
          have f := blk_frozen H3.out (i := 15)
          obtain ⟨q7, e⟩ : ∃ q, co (ivL.getD 7 0) = q := ⟨_, rfl⟩
          have E0 := TW.hide e
          generalize ivL.getD 7 0 = y7 at c e
          (try unfold co at e)
          unfold xo at e
          refine wp_seq_k fun KK hK => ?_
          have HK := TW.hide hK
          clear hK
          go_wp2
          refine HK.out _ _ ?_
          clear HK KK
          clear c f e
          have m3 := blk_setK (i := 15) (x := q7) H3.out
          have mH2 := blk_other (p := B + 1 + 1) (o := 15) (u := .int .u64 q7) H2.out (by omega)
          have mb := HB.out.setCell (p := ⟨B + 1 + 1, 15, none⟩) (by simp; try omega) (.int .u64 q7)
          clear H2 H3 HB
          generalize w3.setCell ⟨B + 1 + 1, 15, none⟩ (.int .u64 q7) = w5 at *
          have H2 := TW.hide mH2
          have H3 := TW.hide m3
          have HB := TW.hide mb
          clear mH2 m3 mb
          rw [← E0.out] at H3
          clear E0
          change Hid (w5.heap[B + 1 + 1]? = some (.cells (K .u64 (initL hs lo hi true true)) 24 (0, 0))) at H3
          have hI := TW.hide (info31 (initL hs lo hi true true) (initL_length hs lo hi true true HL.out))
          have hO := TW.hide (size16 (List.replicate 16 0) (initL hs lo hi true true) rfl (initL_length hs lo hi true true HL.out))
          go_wp2_with (first | (refine wpList_load_row (by rfl) 24 _ (by rfl) (B + 1 + 1) (by rfl) 24 (K .u64 (initL hs lo hi true true)) (0, 0) _ H3.out Tryd.underlying24 rfl hI.out ?_) | (refine wpList_store_row (by rfl) 24 _ _ (by rfl) (B + 1) (K .u64 (initL hs lo hi true true)) (by rfl) (by rfl) 24 _ H2.out hI.out hO.out (K_one _ _) ?_))
          refine bodyPost_ret (v := .agg (K .u64 (initL hs lo hi true true))) (results_cell_row (P := Tryd.prog) Tryd.results7 _ _ (B + 1) 24 (K .u64 (initL hs lo hi true true)) (0, 0) _ (by rfl) (setRow_heap _ _ _ _ _ _ H2.out) Tryd.underlying24 rfl hI.out) rfl ?_
          exact ⟨rfl, below_setRow HB.out (by omega)⟩
end MX
end Go.Proofs.YtkilackhomhpgabDoor
