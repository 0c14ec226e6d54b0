/-
  The places of pairs; words at places go through Perm; the mix.
-/
import Derived.Test.YtkgemkfajkcgcaaDoorBk1
import Derived.Test.YtkgemkfajkcgcaaDoorPrm
import Derived.Maps.AppendAt
namespace Go.Proofs.YtkgemkfajkcgcaaDoor
open Go.RowKit
set_option linter.unusedVariables false
set_option linter.unusedSimpArgs false
set_option maxRecDepth 100000
namespace LW
open Turn
open Words
attribute [local go_sem ↓] Go.wp_at_zero Go.wp_at_succ
set_option maxHeartbeats 4000000 in
theorem bpairs (a b : Nat) (w : World) (ha : a ≤ 1000) (hb0 : b ≤ 1000) :
    Calls Tryd.prog 40 #[.int .i64 (a : Int), .int .i64 (b : Int)] w fun e w' => e = .returned (.agg (K .i64 (prA a b))) ∧ Below w.heap.size w w' := by
  unfold prA
  have hb := (((Below.refl w.heap.size w).alloc (Nat.le_refl _) (.cells (K .i64 (List.replicate 16 0)) 58)).alloc (by simp; try omega) (.cells (K .i64 (List.replicate 16 0)) 58))
  have n0 := (blk_alloc (o' := .cells (K .i64 (List.replicate 16 0)) 58) (heap_new w (.cells (K .i64 (List.replicate 16 0)) 58)))
  have n1 := (heap_new (w.alloc (.cells (K .i64 (List.replicate 16 0)) 58)) (.cells (K .i64 (List.replicate 16 0)) 58))
  rw [show (w.alloc (.cells (K .i64 (List.replicate 16 0)) 58)).heap.size = w.heap.size + 1 by simp] at n1
  have e0 : (List.replicate 16 0 : List Int) = (mkL 16 (fun i => if i < 0 then ((a + b * (i / 2) + i % 2 : Nat) : Int) else 0)) := by rw [mkL_lo, mk0]
  go_enter Tryd.func40, Tryd.ntmps40
  refine wp_seq_k fun Kx hK => ?_
  have HK := TW.hide hK
  clear hK
  refine wp_region_lit ?_
  refine Great.wpList_runTo rfl _ rfl (.pointer (some ⟨w.heap.size, 0, none⟩)) (w.alloc (.cells (K .i64 (List.replicate 16 0)) 58)) (by kernel_rfl) ?_
  simp only [Act.put, List.setIfInBounds_toArray, List.set_cons_zero, List.set_cons_succ]
  refine wpList_nil ?_
  refine HK.out _ _ ?_
  clear HK Kx
  refine wp_seq_k fun Kx hK => ?_
  have HK := TW.hide hK
  clear hK
  refine wp_region_lit ?_
  refine Great.wpList_runTo rfl _ rfl (.pointer (some ⟨(w.alloc (.cells (K .i64 (List.replicate 16 0)) 58)).heap.size, 0, none⟩)) ((w.alloc (.cells (K .i64 (List.replicate 16 0)) 58)).alloc (.cells (K .i64 (List.replicate 16 0)) 58)) (by kernel_rfl) ?_
  simp only [Act.put, List.setIfInBounds_toArray, List.set_cons_zero, List.set_cons_succ]
  rw [show (w.alloc (.cells (K .i64 (List.replicate 16 0)) 58)).heap.size = w.heap.size + 1 by simp]
  generalize hWW : (w.alloc (.cells (K .i64 (List.replicate 16 0)) 58)).alloc (.cells (K .i64 (List.replicate 16 0)) 58) = W at hb n0 n1 ⊢
  have hW : W.heap.size = w.heap.size + 1 + 1 := by rw [← hWW]; simp
  clear hWW
  refine wpList_nil ?_
  refine HK.out _ _ ?_
  clear HK Kx
  generalize hB : w.heap.size = B at *
  have H0 := TW.hide n0
  have H1 := TW.hide n1
  have HB := TW.hide hb
  have E0 := TW.hide e0
  clear n0 n1 hb e0
  clear hB hW
  go_wp2
  go_loopw [7] (fun i wr => ∃ k : Nat, k ≤ 16 ∧ i = .int .i64 k ∧ Hid (wr.heap[B + 1]? = some (.cells (K .i64 (mkL 16 (fun i => if i < k then ((a + b * (i / 2) + i % 2 : Nat) : Int) else 0))) 58 (0, 0))) ∧ Hid (wr.heap[B]? = some (.cells (K .i64 (List.replicate 16 0)) 58 (0, 0))) ∧ Hid (Below B w wr)) (fun i _ => 16 - (intOf i).toNat)
  case atStart => exact ⟨0, Nat.zero_le _, rfl, by rw [← E0.out]; exact H1.out, H0.out, HB.out⟩
  case round =>
    obtain ⟨k, hk, rfl, N1, N0, NB⟩ := hrel
    clear H0 H1 HB E0
    by_cases hlt : k < 16
    · have hc := blk_cellK N1.out (i := k) (by rw [mkL_length]; exact hlt)
      have hf := blk_frozen N1.out (i := k)
      rw [mkL_at _ _ hlt] at hc
      have hs := mkL_set (n := 16) (fun i => ((a + b * (i / 2) + i % 2 : Nat) : Int)) (fun _ => 0) hlt
      have HN1 := TW.hide (blk_setK (i := k) (x := ((a + b * (k / 2) + k % 2 : Nat) : Int)) N1.out)
      have q1 : (k : Int) < 16 := by omega
      have q0 : (0 : Int) ≤ (k : Int) := by omega
      have hm : b * (k / 2) ≤ 1000 * 8 := Nat.mul_le_mul hb0 (by omega)
      obtain ⟨h2, hh2⟩ : ∃ h, k / 2 = h := ⟨_, rfl⟩
      obtain ⟨r2, hr2⟩ : ∃ h, k % 2 = h := ⟨_, rfl⟩
      have e1 : (k : Int).tdiv 2 = (h2 : Int) := by rw [Int.tdiv_eq_ediv_of_nonneg (by omega)]; omega
      have e2 : (k : Int).tmod 2 = (r2 : Int) := by rw [Int.tmod_eq_emod_of_nonneg (by omega)]; omega
      rw [hh2] at hm HN1 hs
      rw [hr2] at HN1 hs
      obtain ⟨m, hme⟩ : ∃ m, b * h2 = m := ⟨_, rfl⟩
      rw [hme] at hm HN1 hs
      have e3 : IntKind.i64.wrap ((b : Int) * (h2 : Int)) = (m : Int) := by
        have : ((b : Int) * (h2 : Int)) = ((b * h2 : Nat) : Int) := by simp
        rw [this, hme, IntKind.wrap_i64]; omega
      have e4 : IntKind.i64.wrap ((a : Int) + (m : Int)) = ((a + m : Nat) : Int) := by rw [IntKind.wrap_i64]; omega
      have e5 : IntKind.i64.wrap (((a + m : Nat) : Int) + (r2 : Int)) = ((a + m + r2 : Nat) : Int) := by rw [IntKind.wrap_i64]; omega
      have e6 : IntKind.i64.wrap ((a : Int) + (m : Int) + (r2 : Int)) = ((a + m + r2 : Nat) : Int) := by rw [IntKind.wrap_i64]; omega
      have i1 : IntKind.i64.wrap (h2 : Int) = (h2 : Int) := by rw [IntKind.wrap_i64]; omega
      have i2 : IntKind.i64.wrap (r2 : Int) = (r2 : Int) := by rw [IntKind.wrap_i64]; omega
      clear hme hh2 hr2 ha hb0
      generalize ((a + m + r2 : Nat) : Int) = x at *
      have HS := TW.hide hs
      clear hs
      generalize ((a + m : Nat) : Int) = y at *
      go_wp2
      go_roundw
      case rel => exact ⟨k + 1, by omega, by go_num, by rw [← HS.out]; exact HN1.out, blk_other N0.out (by omega), NB.out.setCell (p := ⟨B + 1, k, none⟩) (Nat.le_succ B) _⟩
      case measure => simp [intOf]; omega
    · obtain rfl : k = 16 := by omega
      rw [mkL_hi] at N1
      have hi31 : (Tryd.prog.info? 58).map (·.size) = some (K .i64 (mkL 16 (fun i => ((a + b * (i / 2) + i % 2 : Nat) : Int)))).size := by rw [K_size, mkL_length]; kernel_rfl
      have HO : Hid ((K .i64 (List.replicate 16 0)).size = (K .i64 (mkL 16 (fun i => ((a + b * (i / 2) + i % 2 : Nat) : Int)))).size) := by show _ = _; rw [K_size, K_size, mkL_length, List.length_replicate]
      have HI := TW.hide hi31
      clear hi31
      generalize hU : (mkL 16 (fun i => ((a + b * (i / 2) + i % 2 : Nat) : Int))) = us at *
      have HU := TW.hide hU
      clear hU
      go_wp2_with (first | (refine wpList_load_row (by rfl) 58 _ (by rfl) (B + 1) (by rfl) 58 (K .i64 us) (0, 0) _ N1.out Tryd.underlying58 rfl HI.out ?_) | (refine wpList_store_row (by rfl) 58 _ _ (by rfl) B (K .i64 us) (by rfl) (by rfl) 58 _ N0.out HI.out HO.out (K_one _ _) ?_))
      have e := HU.out
      subst e
      refine bodyPost_ret (v := .agg (K .i64 (mkL 16 (fun i => ((a + b * (i / 2) + i % 2 : Nat) : Int))))) (results_cell_row (P := Tryd.prog) Tryd.results40 _ _ B 58 (K .i64 (mkL 16 (fun i => ((a + b * (i / 2) + i % 2 : Nat) : Int)))) (0, 0) _ (by rfl) (setRow_heap _ _ _ _ _ _ N0.out) Tryd.underlying58 rfl HI.out) rfl ?_
      exact ⟨rfl, below_setRow NB.out (by omega)⟩
set_option maxHeartbeats 4000000 in
theorem bthru (z PS : List Int) (gz : Nat) (w : World) (lz : z.length = 128) (hz : Ws z) (lP : PS.length = 16) (hP : ∀ i, i < 16 → ∃ p : Nat, p < 128 ∧ PS.getD i 0 = (p : Int)) (hg : w.heap[gz]? = some (.cells (K .u64 z) 50 (0, 0))) (hp : Tab w 0 .u8 plL) :
    Calls Tryd.prog 39 #[.agg (K .i64 PS), .pointer (some ⟨gz, 0, none⟩)] w fun e w' => e = .returned (.tuple #[]) ∧ w'.heap[gz]? = some (.cells (K .u64 (thL z PS)) 50 (0, 0)) ∧ w.grownBy w' (some gz) := by
  have hgl : gz < w.heap.size := blk_lt hg
  have hPm := fun W h => perm (gaL z PS) W (gaL_length z PS) (gaL_Ws PS hz) h
  have hio : (Tryd.prog.info? 58).map (·.size) = some (K .i64 PS).size := by rw [K_size, lP]; kernel_rfl
  have HIO := TW.hide hio
  unfold thL
  have HPW : Hid (Ws (pmL (gaL z PS)) ∧ (pmL (gaL z PS)).length = 16) := ⟨pmL_Ws (gaL_Ws PS hz), by rw [pmL_length, gaL_length]⟩
  clear hio
  have hb := (((Below.refl w.heap.size w).alloc (Nat.le_refl _) (.cells (K .i64 PS) 58)).alloc (by simp; try omega) (.cells (K .u64 (List.replicate 16 0)) 23))
  have n0 := (blk_alloc (o' := .cells (K .u64 (List.replicate 16 0)) 23) (heap_new w (.cells (K .i64 PS) 58)))
  have n1 := (heap_new (w.alloc (.cells (K .i64 PS) 58)) (.cells (K .u64 (List.replicate 16 0)) 23))
  rw [show (w.alloc (.cells (K .i64 PS) 58)).heap.size = w.heap.size + 1 by simp] at n1
  have e0 : (List.replicate 16 0 : List Int) = (mkL 16 (fun i => if i < 0 then z.getD (PS.getD i 0).toNat 0 else 0)) := by rw [mkL_lo, mk0]
  go_enter Tryd.func39, Tryd.ntmps39
  refine wp_seq_k fun Kx hK => ?_
  have HK := TW.hide hK
  clear hK
  refine wp_region_lit ?_
  refine Great.wpList_runTo rfl _ rfl (.pointer (some ⟨w.heap.size, 0, none⟩)) (w.alloc (.cells (K .i64 PS) 58)) (by kernel_rfl) ?_
  simp only [Act.put, List.setIfInBounds_toArray, List.set_cons_zero, List.set_cons_succ]
  refine wpList_nil ?_
  refine HK.out _ _ ?_
  clear HK Kx
  refine wp_seq_k fun Kx hK => ?_
  have HK := TW.hide hK
  clear hK
  refine wp_region_lit ?_
  refine Great.wpList_runTo rfl _ rfl (.pointer (some ⟨(w.alloc (.cells (K .i64 PS) 58)).heap.size, 0, none⟩)) ((w.alloc (.cells (K .i64 PS) 58)).alloc (.cells (K .u64 (List.replicate 16 0)) 23)) (by kernel_rfl) ?_
  simp only [Act.put, List.setIfInBounds_toArray, List.set_cons_zero, List.set_cons_succ]
  rw [show (w.alloc (.cells (K .i64 PS) 58)).heap.size = w.heap.size + 1 by simp]
  generalize hWW : (w.alloc (.cells (K .i64 PS) 58)).alloc (.cells (K .u64 (List.replicate 16 0)) 23) = W at hb n0 n1 ⊢
  have hW : W.heap.size = w.heap.size + 1 + 1 := by rw [← hWW]; simp
  clear hWW
  refine wpList_nil ?_
  refine HK.out _ _ ?_
  clear HK Kx
  have NZ : Hid (W.heap[gz]? = some (.cells (K .u64 z) 50 (0, 0))) := blk_keep hg hb
  have HT : Hid (∀ X, Below w.heap.size w X → Tab X 0 .u8 plL) := fun X hX => hp.below hX
  generalize hB : w.heap.size = B at *
  have HGB : Hid (∀ X, Below B w X → B ≤ X.heap.size → w.grownBy X (some gz)) := fun X hX hs => ⟨hX.os, hX.tape, hX.output, by rw [hB]; exact hs, fun k hk _ => hX.block k (by omega)⟩
  have H0 := TW.hide n0
  have H1 := TW.hide n1
  have HB := TW.hide hb
  have E0 := TW.hide e0
  clear n0 n1 hb e0
  have HWB : Hid (B + 1 < W.heap.size) := by show _ < _; omega
  clear hW
  go_wp2_with (first | (refine wpList_load_row (by rfl) 58 _ (by rfl) B (by rfl) 58 (K .i64 PS) (0, 0) _ H0.out Tryd.underlying58 rfl HIO.out ?_) | fail)
  go_loopw [9] (fun i wr => ∃ k : Nat, k ≤ 16 ∧ i = .int .i64 k ∧ Hid (wr.heap[B + 1]? = some (.cells (K .u64 (mkL 16 (fun i => if i < k then z.getD (PS.getD i 0).toNat 0 else 0))) 23 (0, 0))) ∧ Hid (wr.heap[B]? = some (.cells (K .i64 PS) 58 (0, 0))) ∧ Hid (wr.heap[gz]? = some (.cells (K .u64 z) 50 (0, 0))) ∧ Hid (Below B w wr)) (fun i _ => 16 - (intOf i).toNat)
  case atStart => exact ⟨0, Nat.zero_le _, rfl, by rw [← E0.out]; exact H1.out, H0.out, NZ.out, HB.out⟩
  case round =>
    obtain ⟨k, hk, rfl, N1, N0, NZk, NB⟩ := hrel
    clear H0 H1 HB E0 NZ HWB
    generalize hV8 : Value.agg (K .i64 PS) = V8 at *
    have HV8 := TW.hide hV8
    clear hV8
    by_cases hlt : k < 16
    · have hx : ∀ Y, (Instr.index 58 V8 (.int .i64 (k : Int))).run Tryd.prog Y = .ok (.int .i64 (PS.getD k 0)) Y := fun Y => by
        rw [← HV8.out]
        exact run_index_cell 58 3 16 _ _ k _ Y Tryd.underlying58 Tryd.underlying3 rfl (by kernel_rfl) hlt (K_get .i64 PS k (by rw [lP]; exact hlt))
      obtain ⟨p, hp1, hp2⟩ := hP k hlt
      have hc := blk_cellK N1.out (i := k) (by rw [mkL_length]; exact hlt)
      have hf := blk_frozen N1.out (i := k)
      rw [mkL_at _ _ hlt] at hc
      have hzc := blk_cellK NZk.out (i := p) (by rw [lz]; exact hp1)
      have hs := mkL_set (n := 16) (fun i => z.getD (PS.getD i 0).toNat 0) (fun _ => 0) hlt
      have HN1 := blk_setK (i := k) (x := z.getD (PS.getD k 0).toNat 0) N1.out
      rw [hp2, Int.toNat_natCast] at hs HN1
      rw [hp2] at hx
      have HS := TW.hide hs
      have HN := TW.hide HN1
      clear hs HN1
      have q1 : (k : Int) < 16 := by omega
      have q0 : (0 : Int) ≤ (k : Int) := by omega
      have q2 : (p : Int) < 128 := by omega
      have q3 : (0 : Int) ≤ (p : Int) := by omega
      generalize z.getD p 0 = zp at *
      clear hp1 hp2
      go_wp2
      go_roundw
      case rel => exact ⟨k + 1, by omega, by go_num, by rw [← HS.out]; exact HN.out, blk_other N0.out (by omega), blk_other NZk.out (by omega), NB.out.setCell (p := ⟨B + 1, k, none⟩) (Nat.le_succ B) _⟩
      case measure => simp [intOf]; omega
    · obtain rfl : k = 16 := by omega
      rw [mkL_hi] at N1
      have hiv : (Tryd.prog.info? 23).map (·.size) = some (K .u64 (gaL z PS)).size := by rw [K_size, gaL_length]; kernel_rfl
      have HIV := TW.hide hiv
      have HN1 : Hid (wr.heap[B + 1]? = some (.cells (K .u64 (gaL z PS)) 23 (0, 0))) := N1.out
      have HPm := TW.hide (hPm wr (HT.out wr NB.out))
      clear hPm hiv N1
      generalize hga : gaL z PS = ga at *
      generalize hrs : pmL ga = rs at *
      have HRS : Hid (pmL (gaL z PS) = rs) := by show _ = _; rw [hga, hrs]
      clear hrs hga
      go_wp2_with (first | (refine wpList_load_row (by rfl) 23 _ (by rfl) (B + 1) (by rfl) 23 (K .u64 ga) (0, 0) _ HN1.out Tryd.underlying23 rfl HIV.out ?_) | fail)
      refine HPm.out.mono ?_
      rintro e w2 ⟨rfl, hb2⟩
      have hbs : B + 1 < wr.heap.size := blk_lt HN1.out
      have M0 : Hid (w2.heap[B]? = some (.cells (K .i64 PS) 58 (0, 0))) := blk_keep N0.out hb2
      have MZ : Hid (w2.heap[gz]? = some (.cells (K .u64 z) 50 (0, 0))) := blk_keep NZk.out hb2
      have MB : Hid (Below B w w2) := NB.out.trans (hb2.mono (by omega))
      have MG : Hid (w.grownBy w2 (some gz)) := HGB.out w2 MB.out (by have := hb2.size; omega)
      clear hb2 N0 NZk NB HN1 HPm HGB hbs MB
      generalize hV20 : Value.agg (K .u64 rs) = V20 at *
      have HV20 := TW.hide hV20
      clear hV20
      go_wp2
      go_loopw [21] (fun i wk => ∃ k : Nat, k ≤ 16 ∧ i = .int .i64 k ∧ Hid (wk.heap[B]? = some (.cells (K .i64 PS) 58 (0, 0))) ∧ Hid (wk.heap[gz]? = some (.cells (K .u64 (stN z PS rs k)) 50 (0, 0))) ∧ Hid (w.grownBy wk (some gz))) (fun i _ => 16 - (intOf i).toNat)
      case atStart => exact ⟨0, Nat.zero_le _, rfl, M0.out, MZ.out, MG.out⟩
      case round =>
        obtain ⟨k, hk, rfl, N0, NZk, NG⟩ := hrel
        clear M0 MZ MG
        by_cases hlt : k < 16
        · have hx : ∀ Y, (Instr.index 23 V20 (.int .i64 (k : Int))).run Tryd.prog Y = .ok (.int .u64 (rs.getD k 0)) Y := fun Y => by
            rw [← HV20.out]
            exact run_index_cell 23 22 16 _ _ k _ Y Tryd.underlying23 Tryd.underlying22 rfl (by kernel_rfl) hlt (K_get .u64 rs k (by rw [HPW.out.2]; exact hlt))
          obtain ⟨p, hp1, hp2⟩ := hP k hlt
          have cP := blk_cellK N0.out (i := k) (by rw [lP]; exact hlt)
          rw [hp2] at cP
          have hsl : (stN z PS rs k).length = 128 := by rw [stN_length, lz]
          have hc := blk_cellK NZk.out (i := p) (by rw [hsl]; exact hp1)
          have hf := blk_frozen NZk.out (i := p)
          have HSS : Hid (stN z PS rs (k + 1) = (stN z PS rs k).set p (rs.getD k 0)) := by show _ = _; rw [stN, hp2, Int.toNat_natCast]
          have HNZ := TW.hide (blk_setK (i := p) (x := rs.getD k 0) NZk.out)
          rw [← HSS.out] at HNZ
          have q1 : (k : Int) < 16 := by omega
          have q0 : (0 : Int) ≤ (k : Int) := by omega
          have q2 : (p : Int) < 128 := by omega
          have q3 : (0 : Int) ≤ (p : Int) := by omega
          generalize rs.getD k 0 = x at *
          clear HSS hsl hp1 hp2
          generalize (stN z PS rs k).getD p 0 = y at *
          go_wp2
          go_roundw
          case rel => exact ⟨k + 1, by omega, by go_num, blk_other N0.out (by omega), HNZ.out, NG.out.trans ⟨rfl, rfl, rfl, by simp, fun j hj hne => by rw [heap_setCell_other _ _ _ _ (by intro h; exact hne (by rw [h]))]⟩⟩
          case measure => simp [intOf]; omega
        · obtain rfl : k = 16 := by omega
          go_wp2
          have e := HRS.out
          subst e
          exact bodyPost_end (v := .tuple #[]) (by simp [results, Tryd.results39, go_sem]) rfl ⟨rfl, NZk.out, NG.out⟩
set_option maxHeartbeats 4000000 in
theorem bmixed (r : List Int) (w : World) (lr : r.length = 128) (hr : Ws r) (hp : Tab w 0 .u8 plL) :
    Calls Tryd.prog 30 #[.agg (K .u64 r)] w fun e w' => e = .returned (.agg (K .u64 (mxL r))) ∧ Below w.heap.size w w' := by
  have hio : (Tryd.prog.info? 50).map (·.size) = some (K .u64 r).size := by rw [K_size, lr]; kernel_rfl
  have HIO := TW.hide hio
  have HWs : Hid (Ws r) := hr
  have HOr : Hid ((K .u64 (List.replicate 128 0)).size = (K .u64 r).size) := by show _ = _; rw [K_size, K_size, lr, List.length_replicate]
  clear hio hr
  have hb := (((Below.refl w.heap.size w).alloc (Nat.le_refl _) (.cells (K .u64 r) 50)).alloc (by simp; try omega) (.cells (K .u64 (List.replicate 128 0)) 50))
  have n0 := (blk_alloc (o' := .cells (K .u64 (List.replicate 128 0)) 50) (heap_new w (.cells (K .u64 r) 50)))
  have n1 := (heap_new (w.alloc (.cells (K .u64 r) 50)) (.cells (K .u64 (List.replicate 128 0)) 50))
  rw [show (w.alloc (.cells (K .u64 r) 50)).heap.size = w.heap.size + 1 by simp] at n1
  go_enter Tryd.func30, Tryd.ntmps30
  refine wp_seq_k fun Kx hK => ?_
  have HK := TW.hide hK
  clear hK
  refine wp_region_lit ?_
  refine Great.wpList_runTo rfl _ rfl (.pointer (some ⟨w.heap.size, 0, none⟩)) (w.alloc (.cells (K .u64 r) 50)) (by kernel_rfl) ?_
  simp only [Act.put, List.setIfInBounds_toArray, List.set_cons_zero, List.set_cons_succ]
  refine Great.wpList_runTo rfl _ rfl (.pointer (some ⟨(w.alloc (.cells (K .u64 r) 50)).heap.size, 0, none⟩)) ((w.alloc (.cells (K .u64 r) 50)).alloc (.cells (K .u64 (List.replicate 128 0)) 50)) (by kernel_rfl) ?_
  simp only [Act.put, List.setIfInBounds_toArray, List.set_cons_zero, List.set_cons_succ]
  rw [show (w.alloc (.cells (K .u64 r) 50)).heap.size = w.heap.size + 1 by simp]
  generalize hWW : (w.alloc (.cells (K .u64 r) 50)).alloc (.cells (K .u64 (List.replicate 128 0)) 50) = W at hb n0 n1 ⊢
  have hW : W.heap.size = w.heap.size + 1 + 1 := by rw [← hWW]; simp
  clear hWW
  refine wpList_nil ?_
  refine HK.out _ _ ?_
  clear HK Kx
  have HT : Hid (∀ X, Below w.heap.size w X → Tab X 0 .u8 plL) := fun X hX => hp.below hX
  generalize hB : w.heap.size = B at *
  refine wp_seq_k fun Kx hK => ?_
  have HK := TW.hide hK
  clear hK
  refine wp_region_lit ?_
  refine wpList_load_row (by rfl) 50 _ (by rfl) B (by rfl) 50 (K .u64 r) (0, 0) _ n0 Tryd.underlying50 rfl HIO.out ?_
  simp only [Act.put, List.setIfInBounds_toArray, List.set_cons_zero, List.set_cons_succ]
  refine Great.wpList_runTo rfl _ rfl (.pointer (some ⟨W.heap.size, 0, none⟩)) (W.alloc (.cells (K .u64 (List.replicate 128 0)) 50)) (by kernel_rfl) ?_
  simp only [Act.put, List.setIfInBounds_toArray, List.set_cons_zero, List.set_cons_succ]
  refine wpList_store_row (by rfl) 50 _ _ (by rfl) W.heap.size (K .u64 r) (by rfl) (by rfl) 50 _ (heap_new W _) HIO.out HOr.out (K_one _ _) ?_
  refine wpList_nil ?_
  refine HK.out _ _ ?_
  clear HK Kx
  have hbX := below_setRow (cs := K .u64 r) ((Below.refl W.heap.size W).alloc (Nat.le_refl _) (.cells (K .u64 (List.replicate 128 0)) 50)) (g := W.heap.size) (Nat.le_refl _)
  have NZ : Hid (((W.alloc (.cells (K .u64 (List.replicate 128 0)) 50)).setRow W.heap.size (K .u64 r)).heap[W.heap.size]? = some (.cells (K .u64 r) 50 (0, 0))) := setRow_heap _ _ _ (K .u64 r) _ _ (heap_new W (.cells (K .u64 (List.replicate 128 0)) 50))
  have NR := TW.hide (blk_keep n0 hbX)
  have NA := TW.hide (blk_keep n1 hbX)
  have NB : Hid (Below B w ((W.alloc (.cells (K .u64 (List.replicate 128 0)) 50)).setRow W.heap.size (K .u64 r))) := hb.trans (hbX.mono (by omega))
  have hgz : B + 1 < W.heap.size := by omega
  clear n0 n1 hb hbX hW
  generalize (W.alloc (.cells (K .u64 (List.replicate 128 0)) 50)).setRow W.heap.size (K .u64 r) = X at *
  generalize W.heap.size = gz at *
  clear W hB
  generalize hV0 : Value.agg (K .u64 r) = V0 at *
  have HV0 := TW.hide hV0
  clear hV0
  go_wp2
  go_loopw [9] (fun i wr => ∃ k : Nat, k ≤ 8 ∧ i = .int .i64 k ∧ Hid (wr.heap[gz]? = some (.cells (K .u64 (rwT r k)) 50 (0, 0))) ∧ Hid (wr.heap[B]? = some (.cells (K .u64 r) 50 (0, 0))) ∧ Hid (wr.heap[B + 1]? = some (.cells (K .u64 (List.replicate 128 0)) 50 (0, 0))) ∧ Hid (Below B w wr)) (fun i _ => 8 - (intOf i).toNat)
  case atStart => exact ⟨0, Nat.zero_le _, rfl, NZ, NR, NA, NB⟩
  case round =>
    clear NZ NR NA NB
    obtain ⟨k, hk, rfl, NZ, NR, NA, NB⟩ := hrel
    by_cases hlt : k < 8
    · have q1 : (k : Int) < 8 := by omega
      have q0 : (0 : Int) ≤ (k : Int) := by omega
      have q2 : IntKind.i64.wrap (16 * (k : Int)) = ((16 * k : Nat) : Int) := by rw [IntKind.wrap_i64]; omega
      have hpr := fun X => bpairs (16 * k) 2 X (by omega) (by omega)
      have HPR : Hid (∀ X, Calls Tryd.prog 40 #[.int .i64 ((16 * k : Nat) : Int), .int .i64 2] X fun e w' => e = .returned (.agg (K .i64 (prA (16 * k) 2))) ∧ Below X.heap.size X w') := hpr
      have hlz : (rwT r k).length = 128 := by rw [rwT_length, lr]
      have hpp : ∀ i, i < 16 → ∃ p : Nat, p < 128 ∧ (prA (16 * k) 2).getD i 0 = (p : Int) := fun i hi => ⟨16 * k + 2 * (i / 2) + i % 2, by omega, by unfold prA; rw [mkL_getD _ hi]⟩
      have hPl : (prA (16 * k) 2).length = 16 := mkL_length _ _
      have HTH := TW.hide (fun X hX hT => bthru (rwT r k) (prA (16 * k) 2) gz X hlz (rwT_Ws HWs.out k) hPl hpp hX hT)
      have HNX : Hid (thL (rwT r k) (prA (16 * k) 2) = rwT r (k + 1)) := rfl
      generalize prA (16 * k) 2 = PS at *
      generalize hzn : rwT r (k + 1) = zn at *
      have HZN := TW.hide hzn
      clear hzn
      generalize rwT r k = zk at *
      generalize ((16 * k : Nat) : Int) = ik at *
      clear hpr hlz hpp hPl
      go_wp2_with fail
      refine (HPR.out _).mono ?_
      rintro e w2 ⟨rfl, hb2⟩
      have hbs : B + 1 < wr.heap.size := blk_lt NA.out
      have MZ : Hid (w2.heap[gz]? = some (.cells (K .u64 zk) 50 (0, 0))) := blk_keep NZ.out hb2
      have MR : Hid (w2.heap[B]? = some (.cells (K .u64 r) 50 (0, 0))) := blk_keep NR.out hb2
      have MA : Hid (w2.heap[B + 1]? = some (.cells (K .u64 (List.replicate 128 0)) 50 (0, 0))) := blk_keep NA.out hb2
      have MB : Hid (Below B w w2) := NB.out.trans (hb2.mono (by omega))
      have MS : Hid (B ≤ w2.heap.size) := by show _ ≤ _; have := hb2.size; omega
      clear hb2 NZ NR NA NB hbs HPR
      go_wp2_with fail
      refine (HTH.out w2 MZ.out (HT.out w2 MB.out)).mono ?_
      rintro e w3 ⟨rfl, hz3, hg3⟩
      rw [HNX.out] at hz3
      have QZ : Hid (w3.heap[gz]? = some (.cells (K .u64 zn) 50 (0, 0))) := hz3
      have QR : Hid (w3.heap[B]? = some (.cells (K .u64 r) 50 (0, 0))) := by show _ = _; rw [hg3.block B (blk_lt MR.out) (by intro h; have := Option.some.inj h; omega)]; exact MR.out
      have QA : Hid (w3.heap[B + 1]? = some (.cells (K .u64 (List.replicate 128 0)) 50 (0, 0))) := by show _ = _; rw [hg3.block (B + 1) (blk_lt MA.out) (by intro h; have := Option.some.inj h; omega)]; exact MA.out
      have QB : Hid (Below B w w3) := MB.out.grown hg3 MS.out (by intro j h; have := Option.some.inj h; omega)
      clear hz3 hg3 MZ MR MA MB MS HTH HNX
      go_wp2
      go_roundw
      case rel => exact ⟨k + 1, by omega, by go_num, by rw [HZN.out]; exact QZ, QR, QA, QB⟩
      case measure => simp [intOf]; omega
    · obtain rfl : k = 8 := by omega
      go_wp2
      go_loopw [18] (fun i wr => ∃ k : Nat, k ≤ 8 ∧ i = .int .i64 k ∧ Hid (wr.heap[gz]? = some (.cells (K .u64 (clT (rwT r 8) k)) 50 (0, 0))) ∧ Hid (wr.heap[B]? = some (.cells (K .u64 r) 50 (0, 0))) ∧ Hid (wr.heap[B + 1]? = some (.cells (K .u64 (List.replicate 128 0)) 50 (0, 0))) ∧ Hid (Below B w wr)) (fun i _ => 8 - (intOf i).toNat)
      case atStart => exact ⟨0, Nat.zero_le _, rfl, NZ, NR, NA, NB⟩
      case round =>
        clear NZ NR NA NB
        obtain ⟨k, hk, rfl, NZ, NR, NA, NB⟩ := hrel
        by_cases hlt : k < 8
        · have q1 : (k : Int) < 8 := by omega
          have q0 : (0 : Int) ≤ (k : Int) := by omega
          have q2 : IntKind.i64.wrap (2 * (k : Int)) = ((2 * k : Nat) : Int) := by rw [IntKind.wrap_i64]; omega
          have hpr := fun X => bpairs (2 * k) 16 X (by omega) (by omega)
          have HPR : Hid (∀ X, Calls Tryd.prog 40 #[.int .i64 ((2 * k : Nat) : Int), .int .i64 16] X fun e w' => e = .returned (.agg (K .i64 (prA (2 * k) 16))) ∧ Below X.heap.size X w') := hpr
          have hlz : (clT (rwT r 8) k).length = 128 := by rw [clT_length, rwT_length, lr]
          have hpp : ∀ i, i < 16 → ∃ p : Nat, p < 128 ∧ (prA (2 * k) 16).getD i 0 = (p : Int) := fun i hi => ⟨2 * k + 16 * (i / 2) + i % 2, by omega, by unfold prA; rw [mkL_getD _ hi]⟩
          have hPl : (prA (2 * k) 16).length = 16 := mkL_length _ _
          have HTH := TW.hide (fun X hX hT => bthru (clT (rwT r 8) k) (prA (2 * k) 16) gz X hlz (clT_Ws (rwT_Ws HWs.out 8) k) hPl hpp hX hT)
          have HNX : Hid (thL (clT (rwT r 8) k) (prA (2 * k) 16) = clT (rwT r 8) (k + 1)) := rfl
          generalize prA (2 * k) 16 = PS at *
          generalize hzn : clT (rwT r 8) (k + 1) = zn at *
          have HZN := TW.hide hzn
          clear hzn
          generalize clT (rwT r 8) k = zk at *
          generalize ((2 * k : Nat) : Int) = ik at *
          clear hpr hlz hpp hPl
          go_wp2_with fail
          refine (HPR.out _).mono ?_
          rintro e w2 ⟨rfl, hb2⟩
          have hbs : B + 1 < wr.heap.size := blk_lt NA.out
          have MZ : Hid (w2.heap[gz]? = some (.cells (K .u64 zk) 50 (0, 0))) := blk_keep NZ.out hb2
          have MR : Hid (w2.heap[B]? = some (.cells (K .u64 r) 50 (0, 0))) := blk_keep NR.out hb2
          have MA : Hid (w2.heap[B + 1]? = some (.cells (K .u64 (List.replicate 128 0)) 50 (0, 0))) := blk_keep NA.out hb2
          have MB : Hid (Below B w w2) := NB.out.trans (hb2.mono (by omega))
          have MS : Hid (B ≤ w2.heap.size) := by show _ ≤ _; have := hb2.size; omega
          clear hb2 NZ NR NA NB hbs HPR
          go_wp2_with fail
          refine (HTH.out w2 MZ.out (HT.out w2 MB.out)).mono ?_
          rintro e w3 ⟨rfl, hz3, hg3⟩
          rw [HNX.out] at hz3
          have QZ : Hid (w3.heap[gz]? = some (.cells (K .u64 zn) 50 (0, 0))) := hz3
          have QR : Hid (w3.heap[B]? = some (.cells (K .u64 r) 50 (0, 0))) := by show _ = _; rw [hg3.block B (blk_lt MR.out) (by intro h; have := Option.some.inj h; omega)]; exact MR.out
          have QA : Hid (w3.heap[B + 1]? = some (.cells (K .u64 (List.replicate 128 0)) 50 (0, 0))) := by show _ = _; rw [hg3.block (B + 1) (blk_lt MA.out) (by intro h; have := Option.some.inj h; omega)]; exact MA.out
          have QB : Hid (Below B w w3) := MB.out.grown hg3 MS.out (by intro j h; have := Option.some.inj h; omega)
          clear hz3 hg3 MZ MR MA MB MS HTH HNX
          go_wp2
          go_roundw
          case rel => exact ⟨_, _, _, _, _, _, _, _, _, _, ⟨k + 1, by omega, by go_num, by rw [HZN.out]; exact QZ, QR, QA, QB⟩, rfl⟩
          case measure => simp [intOf]; omega
        · obtain rfl : k = 8 := by omega
          have hlz : (rcL r).length = 128 := by rw [rcL_length, lr]
          have hov := fun X => bover (rcL r) r X hlz lr
          have HNZ : Hid (wr.heap[gz]? = some (.cells (K .u64 (rcL r)) 50 (0, 0))) := NZ
          have hiz : (Tryd.prog.info? 50).map (·.size) = some (K .u64 (rcL r)).size := by rw [K_size, hlz]; kernel_rfl
          have hi31 : (Tryd.prog.info? 50).map (·.size) = some (K .u64 (mxL r)).size := by rw [K_size, mxL_length]; kernel_rfl
          have HO : Hid ((K .u64 (List.replicate 128 0)).size = (K .u64 (mxL r)).size) := by show _ = _; rw [K_size, K_size, mxL_length, List.length_replicate]
          have hmx : mxL r = ovL (rcL r) r := rfl
          rw [← hmx] at hov
          have HOV := TW.hide hov
          have HI := TW.hide hi31
          have HIZ := TW.hide hiz
          clear hi31 hiz hov hmx hlz NZ
          generalize rcL r = zr at *
          generalize hU : mxL r = us at *
          have HU := TW.hide hU
          clear hU
          go_wp2_with (first | (refine wpList_load_row (by rfl) 50 _ (by rfl) gz (by rfl) 50 (K .u64 zr) (0, 0) _ HNZ.out Tryd.underlying50 rfl HIZ.out ?_) | (refine wpList_load_row (by rfl) 50 _ (by rfl) B (by rfl) 50 (K .u64 r) (0, 0) _ NR.out Tryd.underlying50 rfl HIO.out ?_) | fail)
          refine (HOV.out _).mono ?_
          rintro e w5 ⟨rfl, hb5⟩
          have NA5 : Hid (w5.heap[B + 1]? = some (.cells (K .u64 (List.replicate 128 0)) 50 (0, 0))) := blk_keep NA.out hb5
          have NB5 : Hid (Below B w w5) := NB.out.trans (hb5.mono (by have := blk_lt NA.out; omega))
          clear hb5 NA NB HOV
          go_wp2_with (first | (refine wpList_store_row (by rfl) 50 _ _ (by rfl) (B + 1) (K .u64 us) (by rfl) (by rfl) 50 _ NA5.out HI.out HO.out (K_one _ _) ?_) | fail)
          have e := HU.out
          subst e
          refine bodyPost_ret (v := .agg (K .u64 (mxL r))) (results_cell_row (P := Tryd.prog) Tryd.results30 _ _ (B + 1) 50 (K .u64 (mxL r)) (0, 0) _ (by rfl) (setRow_heap _ _ _ _ _ _ NA5.out) Tryd.underlying50 rfl HI.out) rfl ?_
          exact ⟨rfl, below_setRow NB5.out (by omega)⟩
end LW
end Go.Proofs.YtkgemkfajkcgcaaDoor
