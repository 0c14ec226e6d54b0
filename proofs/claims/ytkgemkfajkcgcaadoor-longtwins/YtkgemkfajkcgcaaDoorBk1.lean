/-
  Blocks laid over one another, read out of bytes, told as bytes; the places of pairs.
-/
import Derived.Test.YtkgemkfajkcgcaaDoorBkL
import Derived.Test.YtkgemkfajkcgcaaDoorClone
namespace Go.Proofs.YtkgemkfajkcgcaaDoor
open Go.RowKit
set_option linter.unusedVariables false
set_option linter.unusedSimpArgs false
set_option maxRecDepth 100000
namespace LW
open Turn
open Words
attribute [local go_sem ↓] Go.wp_at_zero Go.wp_at_succ
theorem mk0 (n : Nat) : mkL n (fun _ => 0) = List.replicate n 0 := by simp [mkL, List.map_const']
theorem own_bel {w w' : World} {B e s n : Nat} {v : Value} {xs : List Value} (h : w.ownsRow B e s v n xs) (hb : Below w.heap.size w w') : w'.ownsRow B e s v n xs := by
  refine ⟨h.1, ?_⟩
  rcases h.2 with h0 | ⟨g, cap, cur, e, hg, hh, r⟩
  · exact .inl h0
  · exact .inr ⟨g, cap, cur, e, hg, blk_keep hh hb, r⟩
set_option maxHeartbeats 4000000 in
theorem bover (rs os : List Int) (w : World) (lr : rs.length = 128) (lo : os.length = 128) :
    Calls Tryd.prog 27 #[.agg (K .u64 rs), .agg (K .u64 os)] w fun e w' => e = .returned (.agg (K .u64 (ovL rs os))) ∧ Below w.heap.size w w' := by
  unfold ovL
  have hio : (Tryd.prog.info? 50).map (·.size) = some (K .u64 os).size := by rw [K_size, lo]; kernel_rfl
  have HIO := TW.hide hio
  clear hio
  have hb := ((((Below.refl w.heap.size w).alloc (Nat.le_refl _) (.cells (K .u64 rs) 50)).alloc (by simp; try omega) (.cells (K .u64 os) 50)).alloc (by simp; try omega) (.cells (K .u64 (List.replicate 128 0)) 50))
  have n0 := (blk_alloc (o' := .cells (K .u64 (List.replicate 128 0)) 50) (blk_alloc (o' := .cells (K .u64 os) 50) (heap_new w (.cells (K .u64 rs) 50))))
  have n1 := (blk_alloc (o' := .cells (K .u64 (List.replicate 128 0)) 50) (heap_new (w.alloc (.cells (K .u64 rs) 50)) (.cells (K .u64 os) 50)))
  rw [show (w.alloc (.cells (K .u64 rs) 50)).heap.size = w.heap.size + 1 by simp] at n1
  have n2 := (heap_new ((w.alloc (.cells (K .u64 rs) 50)).alloc (.cells (K .u64 os) 50)) (.cells (K .u64 (List.replicate 128 0)) 50))
  rw [show ((w.alloc (.cells (K .u64 rs) 50)).alloc (.cells (K .u64 os) 50)).heap.size = w.heap.size + 1 + 1 by simp] at n2
  have e0 : rs = (mkL 128 (fun i => if i < 0 then xo (rs.getD i 0) (os.getD i 0) else rs.getD i 0)) := by rw [mkL_lo, mkL_self lr]
  go_enter Tryd.func27, Tryd.ntmps27
  refine wp_seq_k fun Kx hK => ?_
  have HK := TW.hide hK
  clear hK
  refine wp_region_lit ?_
  refine Great.wpList_runTo rfl _ rfl (.pointer (some ⟨w.heap.size, 0, none⟩)) (w.alloc (.cells (K .u64 rs) 50)) (by kernel_rfl) ?_
  simp only [Act.put, List.setIfInBounds_toArray, List.set_cons_zero, List.set_cons_succ]
  refine Great.wpList_runTo rfl _ rfl (.pointer (some ⟨(w.alloc (.cells (K .u64 rs) 50)).heap.size, 0, none⟩)) ((w.alloc (.cells (K .u64 rs) 50)).alloc (.cells (K .u64 os) 50)) (by kernel_rfl) ?_
  simp only [Act.put, List.setIfInBounds_toArray, List.set_cons_zero, List.set_cons_succ]
  rw [show (w.alloc (.cells (K .u64 rs) 50)).heap.size = w.heap.size + 1 by simp]
  refine Great.wpList_runTo rfl _ rfl (.pointer (some ⟨((w.alloc (.cells (K .u64 rs) 50)).alloc (.cells (K .u64 os) 50)).heap.size, 0, none⟩)) (((w.alloc (.cells (K .u64 rs) 50)).alloc (.cells (K .u64 os) 50)).alloc (.cells (K .u64 (List.replicate 128 0)) 50)) (by kernel_rfl) ?_
  simp only [Act.put, List.setIfInBounds_toArray, List.set_cons_zero, List.set_cons_succ]
  rw [show ((w.alloc (.cells (K .u64 rs) 50)).alloc (.cells (K .u64 os) 50)).heap.size = w.heap.size + 1 + 1 by simp]
  generalize hWW : ((w.alloc (.cells (K .u64 rs) 50)).alloc (.cells (K .u64 os) 50)).alloc (.cells (K .u64 (List.replicate 128 0)) 50) = W at hb n0 n1 n2 ⊢
  have hW : W.heap.size = w.heap.size + 1 + 1 + 1 := by rw [← hWW]; simp
  clear hWW
  refine wpList_nil ?_
  refine HK.out _ _ ?_
  clear HK Kx
  generalize hB : w.heap.size = B at *
  have H0 := TW.hide n0
  have H1 := TW.hide n1
  have H2 := TW.hide n2
  have HB := TW.hide hb
  have E0 := TW.hide e0
  clear n0 n1 n2 hb e0
  clear hB hW
  generalize hV0 : Value.agg (K .u64 rs) = V0 at *
  have HV0 := TW.hide hV0
  clear hV0
  go_wp2_with (first | (refine wpList_load_row (by rfl) 50 _ (by rfl) (B + 1) (by rfl) 50 (K .u64 os) (0, 0) _ H1.out Tryd.underlying50 rfl HIO.out ?_) | fail)
  go_loopw [8] (fun i wr => ∃ k : Nat, k ≤ 128 ∧ i = .int .i64 k ∧ Hid (wr.heap[B]? = some (.cells (K .u64 (mkL 128 (fun i => if i < k then xo (rs.getD i 0) (os.getD i 0) else rs.getD i 0))) 50 (0, 0))) ∧ Hid (wr.heap[B + 1 + 1]? = some (.cells (K .u64 (List.replicate 128 0)) 50 (0, 0))) ∧ Hid (Below B w wr)) (fun i _ => 128 - (intOf i).toNat)
  case atStart => exact ⟨0, Nat.zero_le _, rfl, by rw [← E0.out]; exact H0.out, H2.out, HB.out⟩
  case round =>
    obtain ⟨k, hk, rfl, N0, N2, NB⟩ := hrel
    clear H0 H1 H2 HB
    by_cases hlt : k < 128
    · have hx : ∀ Y, (Instr.index 50 (.agg (K .u64 os)) (.int .i64 (k : Int))).run Tryd.prog Y = .ok (.int .u64 (os.getD k 0)) Y := fun Y =>
        run_index_cell 50 22 128 _ _ k _ Y Tryd.underlying50 Tryd.underlying22 rfl (by kernel_rfl) hlt (K_get .u64 os k (by rw [lo]; exact hlt))
      have hc := blk_cellK N0.out (i := k) (by rw [mkL_length]; exact hlt)
      have hf := blk_frozen N0.out (i := k)
      rw [mkL_at _ _ hlt] at hc
      have HS := TW.hide (mkL_set (fun i => xo (rs.getD i 0) (os.getD i 0)) (fun i => rs.getD i 0) hlt)
      have HN1 := TW.hide (blk_setK (i := k) (x := xo (rs.getD k 0) (os.getD k 0)) N0.out)
      have q1 : (k : Int) < 128 := by omega
      have q0 : (0 : Int) ≤ (k : Int) := by omega
      generalize hxk : xo (rs.getD k 0) (os.getD k 0) = xk at *
      unfold xo at hxk
      generalize os.getD k 0 = ok at *
      generalize rs.getD k 0 = rk at *
      generalize hV7 : Value.agg (K .u64 os) = V7 at *
      have HV7 := TW.hide hV7
      clear hV7
      go_wp2
      have e7 := HV7.out
      subst e7
      go_roundw
      case rel => exact ⟨k + 1, by omega, by go_num, by rw [← HS.out]; exact HN1.out, blk_other N2.out (by omega), NB.out.setCell (Nat.le_refl _) _⟩
      case measure => simp [intOf]; omega
    · obtain rfl : k = 128 := by omega
      rw [mkL_hi] at N0
      have hi31 : (Tryd.prog.info? 50).map (·.size) = some (K .u64 (mkL 128 (fun i => xo (rs.getD i 0) (os.getD i 0)))).size := by rw [K_size, mkL_length]; kernel_rfl
      have HO : Hid ((K .u64 (List.replicate 128 0)).size = (K .u64 (mkL 128 (fun i => xo (rs.getD i 0) (os.getD i 0)))).size) := by show _ = _; rw [K_size, K_size, mkL_length, List.length_replicate]
      have HI := TW.hide hi31
      clear hi31
      generalize hU : mkL 128 (fun i => xo (rs.getD i 0) (os.getD i 0)) = us at *
      have HU := TW.hide hU
      clear hU
      go_wp2_with (first | (refine wpList_load_row (by rfl) 50 _ (by rfl) B (by rfl) 50 (K .u64 us) (0, 0) _ N0.out Tryd.underlying50 rfl HI.out ?_) | (refine wpList_store_row (by rfl) 50 _ _ (by rfl) (B + 1 + 1) (K .u64 us) (by rfl) (by rfl) 50 _ N2.out HI.out HO.out (K_one _ _) ?_))
      have e := HU.out
      subst e
      refine bodyPost_ret (v := .agg (K .u64 (mkL 128 (fun i => xo (rs.getD i 0) (os.getD i 0))))) (results_cell_row (P := Tryd.prog) Tryd.results27 _ _ (B + 1 + 1) 50 (K .u64 (mkL 128 (fun i => xo (rs.getD i 0) (os.getD i 0)))) (0, 0) _ (by rfl) (setRow_heap _ _ _ _ _ _ N2.out) Tryd.underlying50 rfl HI.out) rfl ?_
      exact ⟨rfl, below_setRow NB.out (by omega)⟩
set_option maxHeartbeats 4000000 in
theorem bof (a : Option Addr) (cap : Nat) (zs : List Int) (w : World) (hz : Byt zs) (hr : Row w a zs) (lz : zs.length = 1024) :
    Calls Tryd.prog 26 #[.slice a 1024 cap] w fun e w' => e = .returned (.agg (K .u64 (wdL zs))) ∧ Below w.heap.size w w' := by
  unfold wdL
  have HR : Hid (∀ X, Below w.heap.size w X → Row X a zs) := fun X hX => hr.below hX
  have hb := (((Below.refl w.heap.size w).alloc (Nat.le_refl _) (.cells (K .u64 (List.replicate 128 0)) 50)).alloc (by simp; try omega) (.cells (K .u64 (List.replicate 128 0)) 50))
  have n0 := (blk_alloc (o' := .cells (K .u64 (List.replicate 128 0)) 50) (heap_new w (.cells (K .u64 (List.replicate 128 0)) 50)))
  have n1 := (heap_new (w.alloc (.cells (K .u64 (List.replicate 128 0)) 50)) (.cells (K .u64 (List.replicate 128 0)) 50))
  rw [show (w.alloc (.cells (K .u64 (List.replicate 128 0)) 50)).heap.size = w.heap.size + 1 by simp] at n1
  have e0 : (List.replicate 128 0 : List Int) = (mkL 128 (fun i => if i < 0 then le ((zs.drop (8 * i)).take 8) else 0)) := by rw [mkL_lo, mk0]
  have e1 := HR.out
  go_enter Tryd.func26, Tryd.ntmps26
  refine wp_seq_k fun Kx hK => ?_
  have HK := TW.hide hK
  clear hK
  refine wp_region_lit ?_
  refine Great.wpList_runTo rfl _ rfl (.pointer (some ⟨w.heap.size, 0, none⟩)) (w.alloc (.cells (K .u64 (List.replicate 128 0)) 50)) (by kernel_rfl) ?_
  simp only [Act.put, List.setIfInBounds_toArray, List.set_cons_zero, List.set_cons_succ]
  refine wpList_nil ?_
  refine HK.out _ _ ?_
  clear HK Kx
  refine wp_seq_k fun Kx hK => ?_
  have HK := TW.hide hK
  clear hK
  refine wp_region_lit ?_
  refine Great.wpList_runTo rfl _ rfl (.pointer (some ⟨(w.alloc (.cells (K .u64 (List.replicate 128 0)) 50)).heap.size, 0, none⟩)) ((w.alloc (.cells (K .u64 (List.replicate 128 0)) 50)).alloc (.cells (K .u64 (List.replicate 128 0)) 50)) (by kernel_rfl) ?_
  simp only [Act.put, List.setIfInBounds_toArray, List.set_cons_zero, List.set_cons_succ]
  rw [show (w.alloc (.cells (K .u64 (List.replicate 128 0)) 50)).heap.size = w.heap.size + 1 by simp]
  generalize hWW : (w.alloc (.cells (K .u64 (List.replicate 128 0)) 50)).alloc (.cells (K .u64 (List.replicate 128 0)) 50) = W at hb n0 n1 ⊢
  have hW : W.heap.size = w.heap.size + 1 + 1 := by rw [← hWW]; simp
  clear hWW
  refine wpList_nil ?_
  refine HK.out _ _ ?_
  clear HK Kx
  generalize hB : w.heap.size = B at *
  have H0 := TW.hide n0
  have H1 := TW.hide n1
  have HB := TW.hide hb
  have E0 := TW.hide e0
  clear n0 n1 hb e0
  clear hB hW e1 hr
  go_wp2
  go_loopw [5] (fun i wr => ∃ k : Nat, k ≤ 128 ∧ i = .int .i64 k ∧ Hid (wr.heap[B + 1]? = some (.cells (K .u64 (mkL 128 (fun i => if i < k then le ((zs.drop (8 * i)).take 8) else 0))) 50 (0, 0))) ∧ Hid (wr.heap[B]? = some (.cells (K .u64 (List.replicate 128 0)) 50 (0, 0))) ∧ Hid (Below B w wr)) (fun i _ => 128 - (intOf i).toNat)
  case atStart => exact ⟨0, Nat.zero_le _, rfl, by rw [← E0.out]; exact H1.out, H0.out, HB.out⟩
  case round =>
    obtain ⟨k, hk, rfl, N1, N0, NB⟩ := hrel
    clear H0 H1 HB E0
    by_cases hlt : k < 128
    · have hld := load64 a cap zs (8 * (k : Int)) wr hz (HR.out wr NB.out) (by rw [lz]; decide) (by omega) (by omega)
      rw [ld_ok zs _ 8 (by omega) (by omega), show (8 * (k : Int)).toNat = 8 * k by omega, lz] at hld
      have hc := blk_cellK N1.out (i := k) (by rw [mkL_length]; exact hlt)
      have hf := blk_frozen N1.out (i := k)
      rw [mkL_at _ _ hlt] at hc
      have HS := TW.hide (mkL_set (fun i => le ((zs.drop (8 * i)).take 8)) (fun _ => 0) hlt)
      have HN1 := TW.hide (blk_setK (i := k) (x := le ((zs.drop (8 * k)).take 8)) N1.out)
      have q1 : (k : Int) < 128 := by omega
      have q0 : (0 : Int) ≤ (k : Int) := by omega
      have q2 : IntKind.i64.wrap (8 * (k : Int)) = 8 * (k : Int) := by rw [IntKind.wrap_i64]; omega
      generalize hxk : le ((zs.drop (8 * k)).take 8) = xk at *
      have HLD := TW.hide hld
      clear hld hxk
      go_wp2_with fail
      refine HLD.out.mono ?_
      rintro e w' ⟨rfl, rfl⟩
      go_wp2
      go_roundw
      case rel => exact ⟨k + 1, by omega, by go_num, by rw [← HS.out]; exact HN1.out, blk_other N0.out (by omega), NB.out.setCell (p := ⟨B + 1, k, none⟩) (Nat.le_succ B) _⟩
      case measure => simp [intOf]; omega
    · obtain rfl : k = 128 := by omega
      rw [mkL_hi] at N1
      have hi31 : (Tryd.prog.info? 50).map (·.size) = some (K .u64 (mkL 128 (fun i => le ((zs.drop (8 * i)).take 8)))).size := by rw [K_size, mkL_length]; kernel_rfl
      have HO : Hid ((K .u64 (List.replicate 128 0)).size = (K .u64 (mkL 128 (fun i => le ((zs.drop (8 * i)).take 8)))).size) := by show _ = _; rw [K_size, K_size, mkL_length, List.length_replicate]
      have HI := TW.hide hi31
      clear hi31
      generalize hU : (mkL 128 (fun i => le ((zs.drop (8 * i)).take 8))) = us at *
      have HU := TW.hide hU
      clear hU
      go_wp2_with (first | (refine wpList_load_row (by rfl) 50 _ (by rfl) (B + 1) (by rfl) 50 (K .u64 us) (0, 0) _ N1.out Tryd.underlying50 rfl HI.out ?_) | (refine wpList_store_row (by rfl) 50 _ _ (by rfl) B (K .u64 us) (by rfl) (by rfl) 50 _ N0.out HI.out HO.out (K_one _ _) ?_))
      have e := HU.out
      subst e
      refine bodyPost_ret (v := .agg (K .u64 (mkL 128 (fun i => le ((zs.drop (8 * i)).take 8))))) (results_cell_row (P := Tryd.prog) Tryd.results26 _ _ B 50 (K .u64 (mkL 128 (fun i => le ((zs.drop (8 * i)).take 8)))) (0, 0) _ (by rfl) (setRow_heap _ _ _ _ _ _ N0.out) Tryd.underlying50 rfl HI.out) rfl ?_
      exact ⟨rfl, below_setRow NB.out (by omega)⟩
set_option maxHeartbeats 4000000 in
theorem bbytes (z : List Int) (w : World) (lz : z.length = 128) (hz : Ws z) :
    Calls Tryd.prog 28 #[.agg (K .u64 z)] w fun e w' => ∃ v, e = .returned v ∧ w'.ownsRow w.heap.size 5 1 v 1024 (vs (byL z)) ∧ Below w.heap.size w w' := by
  obtain ⟨i0, hi, hz0, hz1, hz2⟩ := info_parts info5
  have hio : (Tryd.prog.info? 50).map (·.size) = some (K .u64 z).size := by rw [K_size, lz]; kernel_rfl
  have HIO := TW.hide hio
  clear hio
  have hb := ((Below.refl w.heap.size w).alloc (Nat.le_refl _) (.cells (K .u64 z) 50))
  have n0 := (heap_new w (.cells (K .u64 z) 50))
  go_enter Tryd.func28, Tryd.ntmps28
  refine wp_seq_k fun Kx hK => ?_
  have HK := TW.hide hK
  clear hK
  refine wp_region_lit ?_
  refine Great.wpList_runTo rfl _ rfl (.pointer (some ⟨w.heap.size, 0, none⟩)) (w.alloc (.cells (K .u64 z) 50)) (by kernel_rfl) ?_
  simp only [Act.put, List.setIfInBounds_toArray, List.set_cons_zero, List.set_cons_succ]
  generalize hWW : w.alloc (.cells (K .u64 z) 50) = W at hb n0 ⊢
  have hW : W.heap.size = w.heap.size + 1 := by rw [← hWW]; simp
  clear hWW
  refine Great.wpList_runTo rfl _ rfl (.slice none 0 0) W (by kernel_rfl) ?_
  simp only [Act.put, List.setIfInBounds_toArray, List.set_cons_zero, List.set_cons_succ]
  refine wpList_nil ?_
  refine HK.out _ _ ?_
  clear HK Kx
  generalize hB : w.heap.size = B at *
  have H0 := TW.hide n0
  have HB := TW.hide hb
  clear n0 hb
  have hBW : B < W.heap.size := by omega
  clear hB hW
  generalize hV0 : Value.agg (K .u64 z) = V0 at *
  have HV0 := TW.hide hV0
  clear hV0
  refine wp_seq_k fun Kx hK => ?_
  have HK := TW.hide hK
  clear hK
  go_wp2_with (at_make; refine wpList_make_own _ rfl _ _ 31 rfl B 5 i0 (.int .u8 0) 1 Tryd.underlying31 hi hz0 hz1 _ _ _ 1024 rfl rfl (by omega) (by rw [hz2]; omega) (by unfold maxLen; omega) (by omega) ?_; intro w1 hown hgrow)
  have HO := TW.hide hown
  have HB1 : Hid (Below B w w1) := HB.out.grown hgrow (by omega) (by intro k h; cases h)
  have H01 : Hid (w1.heap[B]? = some (.cells (K .u64 z) 50 (0, 0))) := blk_keep H0.out ((Below.refl _ _).grown hgrow (Nat.le_refl _) (by intro k h; cases h))
  clear hown hgrow H0 HB
  refine HK.out _ _ ?_
  clear HK Kx
  have hBs : B ≤ w1.heap.size := by have := blk_lt H01.out; omega
  go_wp2_with (first | (refine wpList_load_row (by rfl) 50 _ (by rfl) B (by rfl) 50 (K .u64 z) (0, 0) _ H01.out Tryd.underlying50 rfl HIO.out ?_) | fail)
  go_loopw [3, 8] (fun b i wr => ∃ k : Nat, k ≤ 128 ∧ i = .int .i64 k ∧ Hid (wr.ownsRow B 5 1 b (8 * k) (vs (byT z k))) ∧ Hid (Below B w wr) ∧ Hid (B ≤ wr.heap.size)) (fun b i _ => 128 - (intOf i).toNat)
  case atStart => exact ⟨0, Nat.zero_le _, rfl, HO, HB1, hBs⟩
  case round =>
    obtain ⟨k, hk, rfl, HO, NB, HS⟩ := hrel
    clear HB1 H01 hBs
    by_cases hlt : k < 128
    · have hx : ∀ Y, (Instr.index 50 (.agg (K .u64 z)) (.int .i64 (k : Int))).run Tryd.prog Y = .ok (.int .u64 (z.getD k 0)) Y := fun Y =>
        run_index_cell 50 22 128 _ _ k _ Y Tryd.underlying50 Tryd.underlying22 rfl (by kernel_rfl) hlt (K_get .u64 z k (by rw [lz]; exact hlt))
      have hw := hz.get k
      have hst := store64 (z.getD k 0) wr hw.1 hw.2
      have HBT : Hid (vs (byT z (k + 1)) = vs (byT z k) ++ vs (un (z.getD k 0) 8)) := by show _ = _; rw [byT, vs_append]
      generalize z.getD k 0 = x at *
      have HST := TW.hide hst
      have q1 : (k : Int) < 128 := by omega
      have q0 : (0 : Int) ≤ (k : Int) := by omega
      clear hst hw
      generalize hV7 : Value.agg (K .u64 z) = V7 at *
      have HV7 := TW.hide hV7
      clear hV7
      go_wp2_with fail
      refine HST.out.mono ?_
      rintro e w2 ⟨ra, rc, rfl, hrow, hb2⟩
      have HO2 : Hid (w2.ownsRow B 5 1 u3 (8 * k) (vs (byT z k))) := own_bel HO.out hb2
      have NB2 : Hid (Below B w w2) := NB.out.trans (hb2.mono HS.out)
      have HS2 : Hid (B ≤ w2.heap.size) := Nat.le_trans HS.out hb2.size
      rcases hrow with h0 | ⟨rb, ro, rfl, hrc⟩
      · exact absurd (congrArg List.length h0) (by rw [un_length]; decide)
      have HRW : Hid (Row w2 (some ⟨rb, ro, none⟩) (un x 8)) := .inr ⟨rb, ro, rfl, hrc⟩
      clear hrc hb2 HO NB HS
      have HC := TW.hide (row_cells HRW.out (Below.refl _ _))
      have HOC := TW.hide (oneCell_vs (un x 8))
      go_wp2_with (at_builtin; refine wpList_append_own _ rfl _ _ 31 rfl B 5 i0 (.int .u8 0) 1 1 Tryd.underlying31 hi hz0 hz1 hz2 rfl (by decide) _ _ _ rfl HO2.out ⟨rb, ro, none⟩ 8 rc (vs (un x 8)) rfl (by rw [vs_length, un_length]) HC.out HOC.out (by unfold maxLen; omega) (by omega) HS2.out ?_; intro v' w3 hown' hgrow' _; have HO3 := TW.hide hown'; have HG3 := TW.hide hgrow'; clear hown' hgrow')
      have NB3 : Hid (Below B w w3) := NB2.out.grown HG3.out HS2.out (own_block HO2.out)
      have HS3 : Hid (B ≤ w3.heap.size) := Nat.le_trans HS2.out HG3.out.size
      have e7 := HV7.out
      subst e7
      go_roundw
      case rel => exact ⟨k + 1, by omega, by go_num, by rw [HBT.out]; exact HO3.out, NB3, HS3⟩
      case measure => simp [intOf]; omega
    · obtain rfl : k = 128 := by omega
      have HO9 : Hid (wr.ownsRow B 5 1 u3 1024 (vs (byL z))) := HO.out
      go_wp2
      go_ret
      exact ⟨_, rfl, HO9.out, NB.out⟩
end LW
end Go.Proofs.YtkgemkfajkcgcaaDoor
