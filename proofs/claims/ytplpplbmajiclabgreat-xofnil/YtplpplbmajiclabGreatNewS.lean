/-
  A hasher of 64-bit words to which nothing was written: what newStream and hasherOf tell, whatever the tables are.
-/
import Derived.Test.YtplpplbmajiclabGreatKArr
namespace Go.Proofs.YtplpplbmajiclabGreat
open Go.RowKit
set_option linter.unusedVariables false
set_option linter.unusedSimpArgs false
namespace LW
open Words
set_option maxRecDepth 100000 in
set_option maxHeartbeats 2000000 in
theorem bigStart (a : Option Addr) (cap : Nat) (zs iv : List Int) (w : World) (hz : Byt zs) (hr : Row w a zs) (hl : zs.length = 64) (hiv : iv.length = 8) (ti : w.heap[2]? = some (.cells (K .u64 iv) 102 (0, 0))) :
    Calls Tryz.prog 126 #[.agg #[], .slice a 64 cap] w fun e w' => ∃ l : List Int, l.length = 8 ∧ e = .returned (.agg (K .u64 l)) ∧ Below w.heap.size w w' := by
  have HS := TW.hide (fun W (h : Row W a zs) (t : W.heap[2]? = some (.cells (K .u64 iv) 102 (0, 0))) => start8 a cap zs iv W hz h hl hiv t)
  have b0 := ((Below.refl w.heap.size w).alloc (Nat.le_refl _) (.cells #[] 106)).alloc (by simp) (.cells (K .u64 (List.replicate 8 0)) 102)
  have n0 := heap_alloc_new (w.alloc (.cells #[] 106)) (.cells (K .u64 (List.replicate 8 0)) 102)
  have r0 := hr.below b0
  have t0 := blk_keep ti b0
  go_enter Tryz.func126, Tryz.ntmps126
  refine wp_seq_k fun K hK => ?_
  have HK := TW.hide hK
  clear hK
  go_wp2
  refine HK.out _ _ ?_
  clear HK K
  change Code.wp _ _ _ _ ((w.alloc (.cells #[] 106)).alloc (.cells (K .u64 (List.replicate 8 0)) 102))
  generalize (w.alloc (.cells #[] 106)).alloc (.cells (K .u64 (List.replicate 8 0)) 102) = X at *
  have hs : (w.alloc (.cells #[] 106)).heap.size = w.heap.size + 1 := by simp
  rw [hs] at n0
  generalize hB : w.heap.size = B at *
  have B0 := TW.hide b0
  have N0 := TW.hide n0
  have R0 := TW.hide r0
  have T0 := TW.hide t0
  clear b0 n0 r0 t0 hr ti hs hiv hl hz
  go_wp2_with fail
  refine (HS.out _ R0.out T0.out).mono ?_
  rintro e w1 ⟨l, hl8, rfl, hb⟩
  have B1 : Hid (Below B w w1) := below_row B0.out hb (by have := blk_lt N0.out; omega)
  have N1 := TW.hide (blk_keep N0.out hb)
  clear hb B0 N0
  have HI2 := TW.hide (info85 l hl8)
  have HO := TW.hide (size8 (List.replicate 8 0) l rfl hl8)
  have HL8 := TW.hide hl8
  clear hl8
  have M0 := TW.hide (heap_alloc_new w1 (.cells (K .u64 (List.replicate 8 0)) 102))
  have hlt := blk_lt N1.out
  have M1 := TW.hide (setRow_heap _ _ _ (K .u64 l) _ _ M0.out)
  have N2 : Hid (((w1.alloc (.cells (K .u64 (List.replicate 8 0)) 102)).setRow w1.heap.size (K .u64 l)).heap[B + 1]? = some (.cells (K .u64 (List.replicate 8 0)) 102 (0, 0))) := by
    show _ = _
    rw [setRow_other _ _ _ _ (by omega)]
    exact blk_alloc N1.out
  have B2 : Hid (Below B w ((w1.alloc (.cells (K .u64 (List.replicate 8 0)) 102)).setRow w1.heap.size (K .u64 l))) := below_setRow (B1.out.alloc (by omega) _) (by omega)
  go_wp2_with (first | (refine wpList_store_row (by rfl) 102 _ _ (by rfl) w1.heap.size (K .u64 l) (by rfl) (by rfl) 102 _ M0.out HI2.out HO.out (K_one _ _) ?_) | (refine wpList_load_row (by rfl) 102 _ (by rfl) w1.heap.size (by rfl) 102 (K .u64 l) (0, 0) _ M1.out Tryz.underlying102 rfl HI2.out ?_) | (refine wpList_store_row (by rfl) 102 _ _ (by rfl) (B + 1) (K .u64 l) (by rfl) (by rfl) 102 _ N2.out HI2.out HO.out (K_one _ _) ?_))
  refine bodyPost_ret (v := .agg (K .u64 l)) (results_cell_row (P := Tryz.prog) Tryz.results126 _ _ (B + 1) 102 _ (0, 0) _ rfl (setRow_heap _ _ _ _ _ _ N2.out) Tryz.underlying102 rfl HI2.out) rfl ?_
  exact ⟨l, HL8.out, rfl, below_setRow B2.out (by omega)⟩
end LW
end Go.Proofs.YtplpplbmajiclabGreat
