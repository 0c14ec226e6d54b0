/-
  What the calls Words (the program, the document) give, for all bytes.
-/
import Derived.Test.YtkilackhomhpgaaDoorRounds
namespace Go.Proofs.YtkilackhomhpgaaDoor
open Go.RowKit
set_option linter.unusedVariables false
set_option linter.unusedSimpArgs false
namespace MX
open Turn
attribute [local go_sem ↓] Go.wp_at_zero Go.wp_at_succ
open Words
/-- The word at a place of a row of words. -/
def wd (zs : List Int) (i : Nat) : Int := le ((zs.drop (8 * i)).take 8)
def wordsL (zs : List Int) (n : Nat) : List Int := (List.range n).map (wd zs)
theorem wordsL_length (zs : List Int) (n : Nat) : (wordsL zs n).length = n := by simp [wordsL]
theorem wordsL_get (zs : List Int) (n i : Nat) (h : i < n) : (wordsL zs n).getD i 0 = wd zs i := by
  simp [wordsL, List.getD_eq_getElem?_getD, h]
theorem wd_W (zs : List Int) (hz : Byt zs) (i : Nat) : W (wd zs i) := by
  have hb := le_bd ((hz.drop (8 * i)).take 8)
  have hl : ((zs.drop (8 * i)).take 8).length ≤ 8 := by simp; omega
  have hp : (256 : Int) ^ ((zs.drop (8 * i)).take 8).length ≤ 18446744073709551616 := p256 _ hl
  exact ⟨hb.1, by unfold wd; omega⟩
theorem ld_wd (zs : List Int) (n i : Nat) (h : zs.length = 8 * n) (hi : i < n) : ld zs (8 * (i : Int)) 8 = (wd zs i, 0) := by
  rw [ld_ok zs (8 * (i : Int)) 8 (by omega) (by omega)]
  unfold wd
  rw [show (8 * (i : Int)).toNat = 8 * i by omega]
set_option maxRecDepth 100000 in
set_option maxHeartbeats 2000000 in
theorem wordsOk (a : Option Addr) (cap : Nat) (zs : List Int) (w : World) (hz : Byt zs) (hr : LW.Row w a zs) (hl : zs.length = 128) :
    Calls Tryd.prog 13 #[.slice a 128 cap] w fun e w' => e = .returned (.tuple #[.agg (K .u64 (wordsL zs 16)), .int .i64 0]) ∧ Below w.heap.size w w' := by
  have hld : ∀ (i : Nat) (X : World), i < 16 → LW.Row X a zs → Calls Tryd.prog 30 #[.slice a 128 cap, .int .i64 (8 * (i : Int))] X fun e w' => e = .returned (.tuple #[.int .u64 (wd zs i), .int .i64 0]) ∧ X = w' := fun i X hi h => by
    have h1 := LW.load64 a cap zs (8 * (i : Int)) X hz h (by rw [hl]; unfold maxLen; omega) (by omega) (by omega)
    rw [ld_wd zs 16 i hl hi, hl] at h1
    exact h1
  have hlw := wordsL_length zs 16
  have hb := (((Below.refl w.heap.size w).alloc (Nat.le_refl _) (.cells (K .u64 (List.replicate 16 0)) 31)).alloc (by simp; try omega) (.cells (K .u64 (List.replicate 16 0)) 31))
  have n0 := (blk_alloc (o' := .cells (K .u64 (List.replicate 16 0)) 31) (heap_new w (.cells (K .u64 (List.replicate 16 0)) 31)))
  have n1 := (heap_new (w.alloc (.cells (K .u64 (List.replicate 16 0)) 31)) (.cells (K .u64 (List.replicate 16 0)) 31))
  rw [show (w.alloc (.cells (K .u64 (List.replicate 16 0)) 31)).heap.size = w.heap.size + 1 by simp] at n1
  have HLD := TW.hide hld
  have HR := TW.hide hr
  have HL := TW.hide hlw
  clear hld hr hlw hz hl
  go_enter Tryd.func13, Tryd.ntmps13
  refine wp_seq_k fun K hK => ?_
  have HK := TW.hide hK
  clear hK
  go_wp2
  refine HK.out _ _ ?_
  clear HK K
  refine wp_seq_k fun K hK => ?_
  have HK := TW.hide hK
  clear hK
  go_wp2
  refine HK.out _ _ ?_
  clear HK K
  change Code.wp _ _ _ _ ((w.alloc (.cells (K .u64 (List.replicate 16 0)) 31)).alloc (.cells (K .u64 (List.replicate 16 0)) 31))
  generalize hWW : (w.alloc (.cells (K .u64 (List.replicate 16 0)) 31)).alloc (.cells (K .u64 (List.replicate 16 0)) 31) = W at hb n0 n1 ⊢
  have hW : W.heap.size = w.heap.size + 1 + 1 := by rw [← hWW]; simp
  clear hWW
  generalize hB : w.heap.size = B at *
  have HRW := TW.hide (HR.out.below (hB ▸ hb))
  have N0 := TW.hide n0
  have N1 := TW.hide n1
  have NB := TW.hide hb
  clear n0 n1 hb
  clear hW
  have hne : ((128 : Int) != 128) = false := by simp
  go_wp2
  go_loopw [10] (fun i wr => ∃ k : Nat, k ≤ 16 ∧ i = .int .i64 k ∧ wr.heap[B]? = some (.cells (K .u64 (List.replicate 16 0)) 31 (0, 0)) ∧ wr.heap[B + 1]? = some (.cells (K .u64 (upto (wordsL zs 16) 16 k)) 31 (0, 0)) ∧ Below B w wr) (fun i _ => 16 - (intOf i).toNat)
  case atStart => exact ⟨0, Nat.zero_le _, rfl, N0.out, by simpa [upto] using N1.out, NB.out⟩
  case round =>
    obtain ⟨k, hk, rfl, n0, n1, hb⟩ := hrel
    clear N0 N1 NB HRW W
    have G0 := TW.hide n0
    have G1 := TW.hide n1
    have GB := TW.hide hb
    by_cases hlt : k < 16
    · have hc := blk_cellK n1 (i := k) (by rw [upto_length _ _ _ HL.out hk]; exact hlt)
      have hf := blk_frozen n1 (i := k)
      have hsz := upto_set (wordsL zs 16) 16 k HL.out hlt
      rw [wordsL_get zs 16 k hlt] at hsz
      have hcall := HLD.out k wr hlt (HR.out.below (hB ▸ hb))
      have HC := TW.hide hcall
      have HS := TW.hide hsz
      clear n0 n1 hb hsz hcall
      generalize wd zs k = z at *
      generalize (upto (wordsL zs 16) 16 k).getD k 0 = y at *
      have hk1 : (k : Int) < 16 := by omega
      go_wp2_with fail
      refine HC.out.mono ?_
      rintro e w1 ⟨rfl, rfl⟩
      go_wp2
      go_roundw
      case rel =>
        refine ⟨k + 1, by omega, by go_num, blk_other G0.out (by omega), ?_, GB.out.setCell (by simp) _⟩
        rw [← HS.out]; exact blk_setK G1.out
      case measure => simp [intOf]; omega
    · obtain rfl : k = 16 := by omega
      rw [upto_full _ _ HL.out] at n1
      have hi31 := info31 (wordsL zs 16) HL.out
      have HO := TW.hide (size16 (List.replicate 16 0) (wordsL zs 16) rfl HL.out)
      have HI2 := TW.hide hi31
      have HN := TW.hide n1
      clear n0 n1 hb hi31
      go_wp2_with (first | (refine wpList_load_row (by rfl) 31 _ (by rfl) (B + 1) (by rfl) 31 (K .u64 (wordsL zs 16)) (0, 0) _ HN.out Tryd.underlying31 rfl HI2.out ?_) | (refine wpList_store_row (by rfl) 31 _ _ (by rfl) (B) (K .u64 (wordsL zs 16)) (by rfl) (by rfl) 31 _ G0.out HI2.out HO.out (K_one _ _) ?_))
      refine bodyPost_ret (v := .tuple #[.agg (K .u64 (wordsL zs 16)), .int .i64 0]) (results_row_tmp (P := Tryd.prog) Tryd.results13 _ _ B 31 _ (0, 0) _ _ (by rfl) (by rfl) (setRow_heap _ _ _ _ _ _ G0.out) Tryd.underlying31 rfl HI2.out) rfl ?_
      exact ⟨rfl, below_setRow GB.out (Nat.le_refl _)⟩
set_option maxRecDepth 100000 in
theorem wordsNo (a : Option Addr) (cap n : Nat) (w : World) (hn : n ≠ 128) :
    Calls Tryd.prog 13 #[.slice a n cap] w fun e w' => e = .returned (.tuple #[.agg (K .u64 (List.replicate 16 0)), .int .i64 1]) ∧ Below w.heap.size w w' := by
  have hb := (((Below.refl w.heap.size w).alloc (Nat.le_refl _) (.cells (K .u64 (List.replicate 16 0)) 31)).alloc (by simp; try omega) (.cells (K .u64 (List.replicate 16 0)) 31))
  have n0 := (blk_alloc (o' := .cells (K .u64 (List.replicate 16 0)) 31) (heap_new w (.cells (K .u64 (List.replicate 16 0)) 31)))
  have n1 := (heap_new (w.alloc (.cells (K .u64 (List.replicate 16 0)) 31)) (.cells (K .u64 (List.replicate 16 0)) 31))
  rw [show (w.alloc (.cells (K .u64 (List.replicate 16 0)) 31)).heap.size = w.heap.size + 1 by simp] at n1
  go_enter Tryd.func13, Tryd.ntmps13
  refine wp_seq_k fun K hK => ?_
  have HK := TW.hide hK
  clear hK
  go_wp2
  refine HK.out _ _ ?_
  clear HK K
  refine wp_seq_k fun K hK => ?_
  have HK := TW.hide hK
  clear hK
  go_wp2
  refine HK.out _ _ ?_
  clear HK K
  change Code.wp _ _ _ _ ((w.alloc (.cells (K .u64 (List.replicate 16 0)) 31)).alloc (.cells (K .u64 (List.replicate 16 0)) 31))
  generalize hWW : (w.alloc (.cells (K .u64 (List.replicate 16 0)) 31)).alloc (.cells (K .u64 (List.replicate 16 0)) 31) = W at hb n0 n1 ⊢
  have hW : W.heap.size = w.heap.size + 1 + 1 := by rw [← hWW]; simp
  clear hWW
  generalize hB : w.heap.size = B at *
  have iu := info31 (List.replicate 16 0) rfl
  have N0 := TW.hide n0
  have N1 := TW.hide n1
  have NB := TW.hide hb
  have IU := TW.hide iu
  clear n0 n1 hb iu
  clear hW
  have hne : ((n : Int) != 128) = true := by simp; omega
  go_wp2_with (first | (refine wpList_load_row (by rfl) 31 _ (by rfl) (B + 1) (by rfl) 31 (K .u64 (List.replicate 16 0)) (0, 0) _ N1.out Tryd.underlying31 rfl IU.out ?_) | (refine wpList_store_row (by rfl) 31 _ _ (by rfl) (B) (K .u64 (List.replicate 16 0)) (by rfl) (by rfl) 31 _ N0.out IU.out rfl (K_one _ _) ?_))
  refine bodyPost_ret (v := .tuple #[.agg (K .u64 (List.replicate 16 0)), .int .i64 1]) (results_row_tmp (P := Tryd.prog) Tryd.results13 _ _ B 31 _ (0, 0) _ _ (by rfl) (by rfl) (setRow_heap _ _ _ _ _ _ N0.out) Tryd.underlying31 rfl IU.out) rfl ?_
  exact ⟨rfl, below_setRow NB.out (Nat.le_refl _)⟩
set_option maxRecDepth 100000 in
set_option maxHeartbeats 2000000 in
theorem rwordsOk (a : Option Addr) (cap : Nat) (zs : List Int) (w : World) (hz : Byt zs) (hr : LW.Row w a zs) (hl : zs.length = 128) :
    Calls Tryd.prog 14 #[.slice a 128 cap] w fun e w' => e = .returned (.tuple #[.agg (K .u64 (wordsL zs 16)), .int .i64 0]) ∧ Below w.heap.size w w' := by
  have hld : ∀ (i : Nat) (X : World), i < 16 → LW.Row X a zs → Calls Tryd.prog 31 #[.slice a 128 cap, .int .i64 (8 * (i : Int)), .int .i64 8] X fun e w' => e = .returned (.tuple #[.int .u64 (wd zs i), .int .i64 0]) ∧ X = w' := fun i X hi h => by
    have h1 := LW.rload a cap zs (8 * (i : Int)) 8 X hz h (by rw [hl]; unfold maxLen; omega) (by omega) (by omega) (by omega) (by omega)
    rw [ld_wd zs 16 i hl hi, hl] at h1
    exact h1
  have hlw := wordsL_length zs 16
  have hb := (((Below.refl w.heap.size w).alloc (Nat.le_refl _) (.cells (K .u64 (List.replicate 16 0)) 31)).alloc (by simp; try omega) (.cells (K .u64 (List.replicate 16 0)) 31))
  have n0 := (blk_alloc (o' := .cells (K .u64 (List.replicate 16 0)) 31) (heap_new w (.cells (K .u64 (List.replicate 16 0)) 31)))
  have n1 := (heap_new (w.alloc (.cells (K .u64 (List.replicate 16 0)) 31)) (.cells (K .u64 (List.replicate 16 0)) 31))
  rw [show (w.alloc (.cells (K .u64 (List.replicate 16 0)) 31)).heap.size = w.heap.size + 1 by simp] at n1
  have HLD := TW.hide hld
  have HR := TW.hide hr
  have HL := TW.hide hlw
  clear hld hr hlw hz hl
  go_enter Tryd.func14, Tryd.ntmps14
  refine wp_seq_k fun K hK => ?_
  have HK := TW.hide hK
  clear hK
  go_wp2
  refine HK.out _ _ ?_
  clear HK K
  refine wp_seq_k fun K hK => ?_
  have HK := TW.hide hK
  clear hK
  go_wp2
  refine HK.out _ _ ?_
  clear HK K
  change Code.wp _ _ _ _ ((w.alloc (.cells (K .u64 (List.replicate 16 0)) 31)).alloc (.cells (K .u64 (List.replicate 16 0)) 31))
  generalize hWW : (w.alloc (.cells (K .u64 (List.replicate 16 0)) 31)).alloc (.cells (K .u64 (List.replicate 16 0)) 31) = W at hb n0 n1 ⊢
  have hW : W.heap.size = w.heap.size + 1 + 1 := by rw [← hWW]; simp
  clear hWW
  generalize hB : w.heap.size = B at *
  have HRW := TW.hide (HR.out.below (hB ▸ hb))
  have N0 := TW.hide n0
  have N1 := TW.hide n1
  have NB := TW.hide hb
  clear n0 n1 hb
  clear hW
  have hne : ((128 : Int) != 128) = false := by simp
  go_wp2
  go_loopw [5] (fun i wr => ∃ k : Nat, k ≤ 16 ∧ i = .int .i64 k ∧ wr.heap[B]? = some (.cells (K .u64 (List.replicate 16 0)) 31 (0, 0)) ∧ wr.heap[B + 1]? = some (.cells (K .u64 (upto (wordsL zs 16) 16 k)) 31 (0, 0)) ∧ Below B w wr) (fun i _ => 16 - (intOf i).toNat)
  case atStart => exact ⟨0, Nat.zero_le _, rfl, N0.out, by simpa [upto] using N1.out, NB.out⟩
  case round =>
    obtain ⟨k, hk, rfl, n0, n1, hb⟩ := hrel
    clear N0 N1 NB HRW W
    have G0 := TW.hide n0
    have G1 := TW.hide n1
    have GB := TW.hide hb
    by_cases hlt : k < 16
    · have hc := blk_cellK n1 (i := k) (by rw [upto_length _ _ _ HL.out hk]; exact hlt)
      have hf := blk_frozen n1 (i := k)
      have hsz := upto_set (wordsL zs 16) 16 k HL.out hlt
      rw [wordsL_get zs 16 k hlt] at hsz
      have hcall := HLD.out k wr hlt (HR.out.below (hB ▸ hb))
      have HC := TW.hide hcall
      have HS := TW.hide hsz
      clear n0 n1 hb hsz hcall
      generalize wd zs k = z at *
      generalize (upto (wordsL zs 16) 16 k).getD k 0 = y at *
      have hk1 : (k : Int) < 16 := by omega
      go_wp2_with fail
      refine HC.out.mono ?_
      rintro e w1 ⟨rfl, rfl⟩
      go_wp2
      go_roundw
      case rel =>
        refine ⟨k + 1, by omega, by go_num, blk_other G0.out (by omega), ?_, GB.out.setCell (by simp) _⟩
        rw [← HS.out]; exact blk_setK G1.out
      case measure => simp [intOf]; omega
    · obtain rfl : k = 16 := by omega
      rw [upto_full _ _ HL.out] at n1
      have hi31 := info31 (wordsL zs 16) HL.out
      have HO := TW.hide (size16 (List.replicate 16 0) (wordsL zs 16) rfl HL.out)
      have HI2 := TW.hide hi31
      have HN := TW.hide n1
      clear n0 n1 hb hi31
      go_wp2_with (first | (refine wpList_load_row (by rfl) 31 _ (by rfl) (B + 1) (by rfl) 31 (K .u64 (wordsL zs 16)) (0, 0) _ HN.out Tryd.underlying31 rfl HI2.out ?_) | (refine wpList_store_row (by rfl) 31 _ _ (by rfl) (B) (K .u64 (wordsL zs 16)) (by rfl) (by rfl) 31 _ G0.out HI2.out HO.out (K_one _ _) ?_))
      refine bodyPost_ret (v := .tuple #[.agg (K .u64 (wordsL zs 16)), .int .i64 0]) (results_row_tmp (P := Tryd.prog) Tryd.results14 _ _ B 31 _ (0, 0) _ _ (by rfl) (by rfl) (setRow_heap _ _ _ _ _ _ G0.out) Tryd.underlying31 rfl HI2.out) rfl ?_
      exact ⟨rfl, below_setRow GB.out (Nat.le_refl _)⟩
set_option maxRecDepth 100000 in
theorem rwordsNo (a : Option Addr) (cap n : Nat) (w : World) (hn : n ≠ 128) :
    Calls Tryd.prog 14 #[.slice a n cap] w fun e w' => e = .returned (.tuple #[.agg (K .u64 (List.replicate 16 0)), .int .i64 1]) ∧ Below w.heap.size w w' := by
  have hb := (((Below.refl w.heap.size w).alloc (Nat.le_refl _) (.cells (K .u64 (List.replicate 16 0)) 31)).alloc (by simp; try omega) (.cells (K .u64 (List.replicate 16 0)) 31))
  have n0 := (blk_alloc (o' := .cells (K .u64 (List.replicate 16 0)) 31) (heap_new w (.cells (K .u64 (List.replicate 16 0)) 31)))
  have n1 := (heap_new (w.alloc (.cells (K .u64 (List.replicate 16 0)) 31)) (.cells (K .u64 (List.replicate 16 0)) 31))
  rw [show (w.alloc (.cells (K .u64 (List.replicate 16 0)) 31)).heap.size = w.heap.size + 1 by simp] at n1
  go_enter Tryd.func14, Tryd.ntmps14
  refine wp_seq_k fun K hK => ?_
  have HK := TW.hide hK
  clear hK
  go_wp2
  refine HK.out _ _ ?_
  clear HK K
  refine wp_seq_k fun K hK => ?_
  have HK := TW.hide hK
  clear hK
  go_wp2
  refine HK.out _ _ ?_
  clear HK K
  change Code.wp _ _ _ _ ((w.alloc (.cells (K .u64 (List.replicate 16 0)) 31)).alloc (.cells (K .u64 (List.replicate 16 0)) 31))
  generalize hWW : (w.alloc (.cells (K .u64 (List.replicate 16 0)) 31)).alloc (.cells (K .u64 (List.replicate 16 0)) 31) = W at hb n0 n1 ⊢
  have hW : W.heap.size = w.heap.size + 1 + 1 := by rw [← hWW]; simp
  clear hWW
  generalize hB : w.heap.size = B at *
  have iu := info31 (List.replicate 16 0) rfl
  have N0 := TW.hide n0
  have N1 := TW.hide n1
  have NB := TW.hide hb
  have IU := TW.hide iu
  clear n0 n1 hb iu
  clear hW
  have hne : ((n : Int) != 128) = true := by simp; omega
  go_wp2_with (first | (refine wpList_load_row (by rfl) 31 _ (by rfl) (B + 1) (by rfl) 31 (K .u64 (List.replicate 16 0)) (0, 0) _ N1.out Tryd.underlying31 rfl IU.out ?_) | (refine wpList_store_row (by rfl) 31 _ _ (by rfl) (B) (K .u64 (List.replicate 16 0)) (by rfl) (by rfl) 31 _ N0.out IU.out rfl (K_one _ _) ?_))
  refine bodyPost_ret (v := .tuple #[.agg (K .u64 (List.replicate 16 0)), .int .i64 1]) (results_row_tmp (P := Tryd.prog) Tryd.results14 _ _ B 31 _ (0, 0) _ _ (by rfl) (by rfl) (setRow_heap _ _ _ _ _ _ N0.out) Tryd.underlying31 rfl IU.out) rfl ?_
  exact ⟨rfl, below_setRow NB.out (Nat.le_refl _)⟩
end MX
end Go.Proofs.YtkilackhomhpgaaDoor
