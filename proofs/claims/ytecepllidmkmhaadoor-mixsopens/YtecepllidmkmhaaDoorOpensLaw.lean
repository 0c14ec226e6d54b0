/-
  What the law MixsOpens does: Open of the program tells of any state what the document's does.
-/
import Derived.Test.YtecepllidmkmhaaDoorOpens
namespace Go.Proofs.YtecepllidmkmhaaDoor
open Go.RowKit
set_option linter.unusedVariables false
set_option linter.unusedSimpArgs false
namespace MX
open Turn
attribute [local go_sem ↓] Go.wp_at_zero Go.wp_at_succ
set_option maxRecDepth 100000 in
set_option maxHeartbeats 2000000 in
theorem opensWalk (v ms : List Int) (w : World) (to : Tab w 1 .u8 ordL) (ti : Tab w 0 .u32 ivL) (hv : v.length = 16) (hV : Ws v) (hm : ms.length = 16) (hM : Ws ms) :
    Calls Tryd.prog 7 #[.agg (K .u32 v), .agg (K .u32 ms)] w fun e w' => e = .returned (.bool true) ∧ Below w.heap.size w w' := by
  have i1 := info16 v hv
  have i2 := info16 ms hm
  have p1 := fun Y (h : Below w.heap.size w Y) => openOk v ms Y (to.below h) (ti.below h) hv hm hV hM
  have p2 := fun Y => ropen v ms Y hv hm hV hM
  have hul : (undoL v ms 10).length = 16 := by rw [undoL_length, hv]
  generalize (undoL v ms 10) = u at p1 p2 hul
  have h8 := opH_length u hul
  have q1 := fun W => eq8 W (opH u) (opH u) h8 h8
  simp only [decide_true] at q1
  have iX := info8 (opH u) h8
  have oX := size8 (List.replicate 8 0) (opH u) rfl h8
  generalize opH u = X at *
  generalize opN u = N at *
  generalize opA u = A at *
  generalize opB u = Bb at *
  generalize opOk u = ok at *
  clear to ti hv hm hV hM hul h8
  have I1 := TW.hide i1
  have I2 := TW.hide i2
  have P1 := TW.hide p1
  have P2 := TW.hide p2
  have Q1 := TW.hide q1
  have IX := TW.hide iX
  have OX := TW.hide oX
  clear i1 i2 p1 p2 q1 iX oX
  have hb := (((Below.refl w.heap.size w).alloc (Nat.le_refl _) (.cells (K .u32 v) 26)).alloc (by simp; try omega) (.cells (K .u32 ms) 26))
  have n0 := (blk_alloc (o' := .cells (K .u32 ms) 26) (heap_new w (.cells (K .u32 v) 26)))
  have n1 := (heap_new (w.alloc (.cells (K .u32 v) 26)) (.cells (K .u32 ms) 26))
  rw [show (w.alloc (.cells (K .u32 v) 26)).heap.size = w.heap.size + 1 by simp] at n1
  go_enter Tryd.func7, Tryd.ntmps7
  refine wp_seq_k fun K hK => ?_
  have HK := TW.hide hK
  clear hK
  go_wp2
  refine HK.out _ _ ?_
  clear HK K
  change Code.wp _ _ _ _ ((w.alloc (.cells (K .u32 v) 26)).alloc (.cells (K .u32 ms) 26))
  generalize hWW : (w.alloc (.cells (K .u32 v) 26)).alloc (.cells (K .u32 ms) 26) = W at hb n0 n1 ⊢
  have hW : W.heap.size = w.heap.size + 1 + 1 := by rw [← hWW]; simp
  clear hWW
  generalize hB : w.heap.size = B at *
  have N0 := TW.hide n0
  have N1 := TW.hide n1
  have NB := TW.hide hb
  clear n0 n1 hb
  clear hW
  refine wp_seq_k fun KK hK => ?_
  have HK := TW.hide hK
  clear hK
  go_wp2_with (first | (refine wpList_load_row (by rfl) 26 _ (by rfl) (B) (by rfl) 26 (K .u32 v) (0, 0) _ N0.out Tryd.underlying26 rfl I1.out ?_) | (refine wpList_load_row (by rfl) 26 _ (by rfl) (B + 1) (by rfl) 26 (K .u32 ms) (0, 0) _ N1.out Tryd.underlying26 rfl I2.out ?_))
  refine (P1.out _ NB.out).mono ?_
  rintro e w1 ⟨rfl, hb1⟩
  have N0' := TW.hide (blk_keep N0.out hb1)
  have N1' := TW.hide (blk_keep N1.out hb1)
  have NB' : Hid (Below B w w1) := below_row NB.out hb1 (le_of_below NB.out (by omega))
  clear hb1
  clear N0 N1 NB
  have N0 := N0'
  have N1 := N1'
  have NB := NB'
  clear N0' N1' NB'
  have hl_g1_N0 := blk_lt N0.out
  have hl_g1_N1 := blk_lt N1.out
  go_wp2_with (first | (refine wpList_store_row (by rfl) 24 _ _ (by rfl) w1.heap.size (K .u32 X) (by rfl) (by rfl) 24 _ (heap_new w1 _) IX.out OX.out (K_one _ _) ?_))
  have n1 := setRow_heap _ _ _ (K .u32 X) _ _ (heap_new w1 (.cells #[.int .u32 0, .int .u32 0, .int .u32 0, .int .u32 0, .int .u32 0, .int .u32 0, .int .u32 0, .int .u32 0] 24))
  have bx1 := below_setRow (cs := (K .u32 X)) ((Below.refl w1.heap.size w1).alloc (Nat.le_refl _) (.cells #[.int .u32 0, .int .u32 0, .int .u32 0, .int .u32 0, .int .u32 0, .int .u32 0, .int .u32 0, .int .u32 0] 24)) (g := w1.heap.size) (Nat.le_refl _)
  generalize (w1.alloc (.cells #[.int .u32 0, .int .u32 0, .int .u32 0, .int .u32 0, .int .u32 0, .int .u32 0, .int .u32 0, .int .u32 0] 24)).setRow w1.heap.size (K .u32 X) = X1 at n1 bx1 ⊢
  have N0' := TW.hide (blk_keep N0.out bx1)
  have N1' := TW.hide (blk_keep N1.out bx1)
  have NB' : Hid (Below B w X1) := below_row NB.out bx1 (le_of_below NB.out (by omega))
  have R1 := TW.hide n1
  clear n1 bx1
  clear N0 N1 NB
  have N0 := N0'
  have N1 := N1'
  have NB := NB'
  clear N0' N1' NB'
  generalize w1.heap.size = g1 at *
  refine HK.out _ _ ?_
  clear HK KK
  refine wp_seq_k fun KK hK => ?_
  have HK := TW.hide hK
  clear hK
  go_wp2_with (first | (refine wpList_load_row (by rfl) 26 _ (by rfl) (B) (by rfl) 26 (K .u32 v) (0, 0) _ N0.out Tryd.underlying26 rfl I1.out ?_) | (refine wpList_load_row (by rfl) 26 _ (by rfl) (B + 1) (by rfl) 26 (K .u32 ms) (0, 0) _ N1.out Tryd.underlying26 rfl I2.out ?_))
  refine (P2.out _).mono ?_
  rintro e w2 ⟨rfl, hb2⟩
  have N0' := TW.hide (blk_keep N0.out hb2)
  have N1' := TW.hide (blk_keep N1.out hb2)
  have R1' := TW.hide (blk_keep R1.out hb2)
  have NB' : Hid (Below B w w2) := below_row NB.out hb2 (le_of_below NB.out (by omega))
  clear hb2
  clear N0 N1 R1 NB
  have N0 := N0'
  have N1 := N1'
  have R1 := R1'
  have NB := NB'
  clear N0' N1' R1' NB'
  have hl_g2_N0 := blk_lt N0.out
  have hl_g2_N1 := blk_lt N1.out
  have hl_g2_R1 := blk_lt R1.out
  go_wp2_with (first | (refine wpList_store_row (by rfl) 24 _ _ (by rfl) w2.heap.size (K .u32 X) (by rfl) (by rfl) 24 _ (heap_new w2 _) IX.out OX.out (K_one _ _) ?_))
  have n2 := setRow_heap _ _ _ (K .u32 X) _ _ (heap_new w2 (.cells #[.int .u32 0, .int .u32 0, .int .u32 0, .int .u32 0, .int .u32 0, .int .u32 0, .int .u32 0, .int .u32 0] 24))
  have bx2 := below_setRow (cs := (K .u32 X)) ((Below.refl w2.heap.size w2).alloc (Nat.le_refl _) (.cells #[.int .u32 0, .int .u32 0, .int .u32 0, .int .u32 0, .int .u32 0, .int .u32 0, .int .u32 0, .int .u32 0] 24)) (g := w2.heap.size) (Nat.le_refl _)
  generalize (w2.alloc (.cells #[.int .u32 0, .int .u32 0, .int .u32 0, .int .u32 0, .int .u32 0, .int .u32 0, .int .u32 0, .int .u32 0] 24)).setRow w2.heap.size (K .u32 X) = X2 at n2 bx2 ⊢
  have N0' := TW.hide (blk_keep N0.out bx2)
  have N1' := TW.hide (blk_keep N1.out bx2)
  have R1' := TW.hide (blk_keep R1.out bx2)
  have NB' : Hid (Below B w X2) := below_row NB.out bx2 (le_of_below NB.out (by omega))
  have R2 := TW.hide n2
  clear n2 bx2
  clear N0 N1 R1 NB
  have N0 := N0'
  have N1 := N1'
  have R1 := R1'
  have NB := NB'
  clear N0' N1' R1' NB'
  generalize w2.heap.size = g2 at *
  refine HK.out _ _ ?_
  clear HK KK
  have q1 := Q1.out
  cases A <;> cases Bb <;> cases ok
  all_goals
    go_wp2_with (first | (refine wpList_load_row (by rfl) 24 _ (by rfl) (g1) (by rfl) 24 (K .u32 X) (0, 0) _ R1.out Tryd.underlying24 rfl IX.out ?_) | (refine wpList_load_row (by rfl) 24 _ (by rfl) (g2) (by rfl) 24 (K .u32 X) (0, 0) _ R2.out Tryd.underlying24 rfl IX.out ?_))
    go_ret
    exact ⟨rfl, NB.out⟩
end MX
end Go.Proofs.YtecepllidmkmhaaDoor
