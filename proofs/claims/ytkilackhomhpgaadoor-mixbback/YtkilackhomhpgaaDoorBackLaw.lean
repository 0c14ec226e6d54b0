/-
  What the law MixbBack does: a round exchanges states one for one.
-/
import Derived.Test.YtkilackhomhpgaaDoorRoundsLaw
import Derived.Test.YtkilackhomhpgaaDoorInv
import Derived.Test.YtkilackhomhpgaaDoorOrder
namespace Go.Proofs.YtkilackhomhpgaaDoor
open Go.RowKit
set_option linter.unusedVariables false
set_option linter.unusedSimpArgs false
namespace MX
open Turn
attribute [local go_sem ↓] Go.wp_at_zero Go.wp_at_succ
theorem dec_eq {p q : Prop} [Decidable p] [Decidable q] (h : p ↔ q) : decide p = decide q := by simp [h]
set_option maxRecDepth 100000 in
set_option maxHeartbeats 4000000 in
theorem backWalk (vs ws ms : List Int) (n : Int) (w : World) (to : Tab w 1 .u8 ordL) (tp : Tab w 2 .u8 plL) (hv : vs.length = 16) (hV : Ws vs) (hw : ws.length = 16) (hW : Ws ws) (hm : ms.length = 16) (hM : Ws ms) (hn0 : 0 ≤ n) (hn1 : n ≤ 255) :
    Calls Tryd.prog 7 #[.agg (K .u64 vs), .agg (K .u64 ws), .agg (K .u64 ms), .int .u8 n] w fun e w' => e = .returned (.bool true) ∧ Below w.heap.size w w' := by
  have hr0 := Int.emod_nonneg n (show (12 : Int) ≠ 0 by omega)
  have hr1 := Int.emod_lt_of_pos n (show (0 : Int) < 12 by omega)
  obtain ⟨r, hr⟩ : ∃ r : Nat, n % 12 = (r : Int) := ⟨(n % 12).toNat, by omega⟩
  have hr12 : r < 12 := by omega
  clear hr0 hr1
  have lx := forthL_length vs ms r
  have wx := forthL_Ws ms r hV
  have lz := backL_length vs ms r
  have wz := backL_Ws ms r hV
  have lo := forthL_length ws ms r
  have ey := back_forth vs ms r hv hV hM
  have eu := forth_back vs ms r hv hV hM
  have ew := back_forth ws ms r hw hW hM
  rw [hv] at lx lz
  rw [hw] at lo
  have h1 := fun X h1 h2 => roundOk vs ms r X hv hm hV hM hr12 h1 h2
  have h2 := fun X h1 h2 => backrOk (forthL vs ms r) ms r X lx hm wx hM hr12 h1 h2
  have h3 := fun X h1 h2 => backrOk vs ms r X hv hm hV hM hr12 h1 h2
  have h4 := fun X h1 h2 => roundOk (backL vs ms r) ms r X lz hm wz hM hr12 h1 h2
  have h5 := fun X h1 h2 => roundOk ws ms r X hw hm hW hM hr12 h1 h2
  rw [ey] at h2
  rw [eu] at h4
  have hiff : decide (forthL vs ms r = forthL ws ms r) = decide (vs = ws) := dec_eq ⟨fun h => by rw [← ey, ← ew, h], fun h => by rw [h]⟩
  clear ey eu ew
  generalize forthL vs ms r = X at *
  generalize backL vs ms r = Z at *
  generalize forthL ws ms r = O at *
  have iv := info31 vs hv
  have iw := info31 ws hw
  have im := info31 ms hm
  have iX := info31 X lx
  have iZ := info31 Z lz
  have iO := info31 O lo
  have oV := size16 (List.replicate 16 0) vs rfl hv
  have oX := size16 (List.replicate 16 0) X rfl lx
  have oZ := size16 (List.replicate 16 0) Z rfl lz
  have oO := size16 (List.replicate 16 0) O rfl lo
  have q1 := fun W => eq16 W vs vs hv hv
  have q2 := fun W => eq16 W X O lx lo
  have q3 := fun W => eq16 W vs ws hv hw
  rw [hiff] at q2
  simp only [decide_true] at q1
  generalize decide (vs = ws) = d at *
  have hdd : (d == d) = true := by simp
  clear hiff wx wz lx lz lo hV hW hM hv hw hm
  have TO := TW.hide to
  have TP := TW.hide tp
  have H1 := TW.hide h1
  have H2 := TW.hide h2
  have H3 := TW.hide h3
  have H4 := TW.hide h4
  have H5 := TW.hide h5
  have IV := TW.hide iv
  have IW := TW.hide iw
  have IM := TW.hide im
  have IX := TW.hide iX
  have IZ := TW.hide iZ
  have IO_ := TW.hide iO
  have OV := TW.hide oV
  have OX := TW.hide oX
  have OZ := TW.hide oZ
  have OO := TW.hide oO
  have Q1 := TW.hide q1
  have Q2 := TW.hide q2
  have Q3 := TW.hide q3
  clear to tp h1 h2 h3 h4 h5 iv iw im iX iZ iO oV oX oZ oO q1 q2 q3
  have hb := ((((Below.refl w.heap.size w).alloc (Nat.le_refl _) (.cells (K .u64 vs) 31)).alloc (by simp; try omega) (.cells (K .u64 ws) 31)).alloc (by simp; try omega) (.cells (K .u64 ms) 31))
  have n0 := (blk_alloc (o' := .cells (K .u64 ms) 31) (blk_alloc (o' := .cells (K .u64 ws) 31) (heap_new w (.cells (K .u64 vs) 31))))
  have n1 := (blk_alloc (o' := .cells (K .u64 ms) 31) (heap_new (w.alloc (.cells (K .u64 vs) 31)) (.cells (K .u64 ws) 31)))
  rw [show (w.alloc (.cells (K .u64 vs) 31)).heap.size = w.heap.size + 1 by simp] at n1
  have n2 := (heap_new ((w.alloc (.cells (K .u64 vs) 31)).alloc (.cells (K .u64 ws) 31)) (.cells (K .u64 ms) 31))
  rw [show ((w.alloc (.cells (K .u64 vs) 31)).alloc (.cells (K .u64 ws) 31)).heap.size = w.heap.size + 1 + 1 by simp] at n2
  go_enter Tryd.func7, Tryd.ntmps7
  refine wp_seq_k fun K hK => ?_
  have HK := TW.hide hK
  clear hK
  go_wp2
  refine HK.out _ _ ?_
  clear HK K
  change Code.wp _ _ _ _ (((w.alloc (.cells (K .u64 vs) 31)).alloc (.cells (K .u64 ws) 31)).alloc (.cells (K .u64 ms) 31))
  generalize hWW : ((w.alloc (.cells (K .u64 vs) 31)).alloc (.cells (K .u64 ws) 31)).alloc (.cells (K .u64 ms) 31) = W at hb n0 n1 n2 ⊢
  have hWs : W.heap.size = w.heap.size + 1 + 1 + 1 := by rw [← hWW]; simp
  clear hWW
  generalize hB : w.heap.size = B at *
  have N0 := TW.hide n0
  have N1 := TW.hide n1
  have N2 := TW.hide n2
  have NB := TW.hide hb
  clear n0 n1 n2 hb
  clear hWs
  refine wp_seq_k fun K hK => ?_
  have HK := TW.hide hK
  clear hK
  go_wp2
  refine HK.out _ _ ?_
  clear HK K
  refine wp_seq_k fun KK hK => ?_
  have HK := TW.hide hK
  clear hK
  go_wp2_with (first | (refine wpList_load_row (by rfl) 31 _ (by rfl) (B) (by rfl) 31 (K .u64 vs) (0, 0) _ N0.out Tryd.underlying31 rfl IV.out ?_) | (refine wpList_load_row (by rfl) 31 _ (by rfl) (B + 1 + 1) (by rfl) 31 (K .u64 ms) (0, 0) _ N2.out Tryd.underlying31 rfl IM.out ?_))
  refine (H1.out _ (TO.out.below (hB ▸ NB.out)) (TP.out.below (hB ▸ NB.out))).mono ?_
  rintro e w1 ⟨rfl, hb1⟩
  have N0' := TW.hide (blk_keep N0.out hb1)
  have N1' := TW.hide (blk_keep N1.out hb1)
  have N2' := TW.hide (blk_keep N2.out hb1)
  have NB' : Hid (Below B w w1) := below_row NB.out hb1 (le_of_below NB.out (by omega))
  clear hb1
  clear N0 N1 N2 NB
  have N0 := N0'
  have N1 := N1'
  have N2 := N2'
  have NB := NB'
  clear N0' N1' N2' NB'
  go_wp2_with (first | (refine wpList_store_row (by rfl) 31 _ _ (by rfl) w1.heap.size (K .u64 X) (by rfl) (by rfl) 31 _ (heap_new w1 _) IX.out OX.out (K_one _ _) ?_))
  have n1 := setRow_heap _ _ _ (K .u64 X) _ _ (heap_new w1 (.cells #[.int .u64 0, .int .u64 0, .int .u64 0, .int .u64 0, .int .u64 0, .int .u64 0, .int .u64 0, .int .u64 0, .int .u64 0, .int .u64 0, .int .u64 0, .int .u64 0, .int .u64 0, .int .u64 0, .int .u64 0, .int .u64 0] 31))
  have bx1 := below_setRow (cs := (K .u64 X)) ((Below.refl w1.heap.size w1).alloc (Nat.le_refl _) (.cells #[.int .u64 0, .int .u64 0, .int .u64 0, .int .u64 0, .int .u64 0, .int .u64 0, .int .u64 0, .int .u64 0, .int .u64 0, .int .u64 0, .int .u64 0, .int .u64 0, .int .u64 0, .int .u64 0, .int .u64 0, .int .u64 0] 31)) (g := w1.heap.size) (Nat.le_refl _)
  generalize (w1.alloc (.cells #[.int .u64 0, .int .u64 0, .int .u64 0, .int .u64 0, .int .u64 0, .int .u64 0, .int .u64 0, .int .u64 0, .int .u64 0, .int .u64 0, .int .u64 0, .int .u64 0, .int .u64 0, .int .u64 0, .int .u64 0, .int .u64 0] 31)).setRow w1.heap.size (K .u64 X) = X1 at n1 bx1 ⊢
  have N0' := TW.hide (blk_keep N0.out bx1)
  have N1' := TW.hide (blk_keep N1.out bx1)
  have N2' := TW.hide (blk_keep N2.out bx1)
  have NB' : Hid (Below B w X1) := below_row NB.out bx1 (le_of_below NB.out (by omega))
  have R1 := TW.hide n1
  clear n1 bx1
  clear N0 N1 N2 NB
  have N0 := N0'
  have N1 := N1'
  have N2 := N2'
  have NB := NB'
  clear N0' N1' N2' NB'
  generalize w1.heap.size = g1 at *
  refine HK.out _ _ ?_
  clear HK KK
  refine wp_seq_k fun KK hK => ?_
  have HK := TW.hide hK
  clear hK
  go_wp2_with (first | (refine wpList_load_row (by rfl) 31 _ (by rfl) (g1) (by rfl) 31 (K .u64 X) (0, 0) _ R1.out Tryd.underlying31 rfl IX.out ?_) | (refine wpList_load_row (by rfl) 31 _ (by rfl) (B + 1 + 1) (by rfl) 31 (K .u64 ms) (0, 0) _ N2.out Tryd.underlying31 rfl IM.out ?_))
  refine (H2.out _ (TO.out.below (hB ▸ NB.out)) (TP.out.below (hB ▸ NB.out))).mono ?_
  rintro e w2 ⟨rfl, hb2⟩
  have N0' := TW.hide (blk_keep N0.out hb2)
  have N1' := TW.hide (blk_keep N1.out hb2)
  have N2' := TW.hide (blk_keep N2.out hb2)
  have R1' := TW.hide (blk_keep R1.out hb2)
  have NB' : Hid (Below B w w2) := below_row NB.out hb2 (le_of_below NB.out (by omega))
  clear hb2
  clear N0 N1 N2 R1 NB
  have N0 := N0'
  have N1 := N1'
  have N2 := N2'
  have R1 := R1'
  have NB := NB'
  clear N0' N1' N2' R1' NB'
  go_wp2_with (first | (refine wpList_store_row (by rfl) 31 _ _ (by rfl) w2.heap.size (K .u64 vs) (by rfl) (by rfl) 31 _ (heap_new w2 _) IV.out OV.out (K_one _ _) ?_))
  have n2 := setRow_heap _ _ _ (K .u64 vs) _ _ (heap_new w2 (.cells #[.int .u64 0, .int .u64 0, .int .u64 0, .int .u64 0, .int .u64 0, .int .u64 0, .int .u64 0, .int .u64 0, .int .u64 0, .int .u64 0, .int .u64 0, .int .u64 0, .int .u64 0, .int .u64 0, .int .u64 0, .int .u64 0] 31))
  have bx2 := below_setRow (cs := (K .u64 vs)) ((Below.refl w2.heap.size w2).alloc (Nat.le_refl _) (.cells #[.int .u64 0, .int .u64 0, .int .u64 0, .int .u64 0, .int .u64 0, .int .u64 0, .int .u64 0, .int .u64 0, .int .u64 0, .int .u64 0, .int .u64 0, .int .u64 0, .int .u64 0, .int .u64 0, .int .u64 0, .int .u64 0] 31)) (g := w2.heap.size) (Nat.le_refl _)
  generalize (w2.alloc (.cells #[.int .u64 0, .int .u64 0, .int .u64 0, .int .u64 0, .int .u64 0, .int .u64 0, .int .u64 0, .int .u64 0, .int .u64 0, .int .u64 0, .int .u64 0, .int .u64 0, .int .u64 0, .int .u64 0, .int .u64 0, .int .u64 0] 31)).setRow w2.heap.size (K .u64 vs) = X2 at n2 bx2 ⊢
  have N0' := TW.hide (blk_keep N0.out bx2)
  have N1' := TW.hide (blk_keep N1.out bx2)
  have N2' := TW.hide (blk_keep N2.out bx2)
  have R1' := TW.hide (blk_keep R1.out bx2)
  have NB' : Hid (Below B w X2) := below_row NB.out bx2 (le_of_below NB.out (by omega))
  have R2 := TW.hide n2
  clear n2 bx2
  clear N0 N1 N2 R1 NB
  have N0 := N0'
  have N1 := N1'
  have N2 := N2'
  have R1 := R1'
  have NB := NB'
  clear N0' N1' N2' R1' NB'
  generalize w2.heap.size = g2 at *
  refine HK.out _ _ ?_
  clear HK KK
  refine wp_seq_k fun KK hK => ?_
  have HK := TW.hide hK
  clear hK
  go_wp2_with (first | (refine wpList_load_row (by rfl) 31 _ (by rfl) (B) (by rfl) 31 (K .u64 vs) (0, 0) _ N0.out Tryd.underlying31 rfl IV.out ?_) | (refine wpList_load_row (by rfl) 31 _ (by rfl) (B + 1 + 1) (by rfl) 31 (K .u64 ms) (0, 0) _ N2.out Tryd.underlying31 rfl IM.out ?_))
  refine (H3.out _ (TO.out.below (hB ▸ NB.out)) (TP.out.below (hB ▸ NB.out))).mono ?_
  rintro e w3 ⟨rfl, hb3⟩
  have N0' := TW.hide (blk_keep N0.out hb3)
  have N1' := TW.hide (blk_keep N1.out hb3)
  have N2' := TW.hide (blk_keep N2.out hb3)
  have R1' := TW.hide (blk_keep R1.out hb3)
  have R2' := TW.hide (blk_keep R2.out hb3)
  have NB' : Hid (Below B w w3) := below_row NB.out hb3 (le_of_below NB.out (by omega))
  clear hb3
  clear N0 N1 N2 R1 R2 NB
  have N0 := N0'
  have N1 := N1'
  have N2 := N2'
  have R1 := R1'
  have R2 := R2'
  have NB := NB'
  clear N0' N1' N2' R1' R2' NB'
  go_wp2_with (first | (refine wpList_store_row (by rfl) 31 _ _ (by rfl) w3.heap.size (K .u64 Z) (by rfl) (by rfl) 31 _ (heap_new w3 _) IZ.out OZ.out (K_one _ _) ?_))
  have n3 := setRow_heap _ _ _ (K .u64 Z) _ _ (heap_new w3 (.cells #[.int .u64 0, .int .u64 0, .int .u64 0, .int .u64 0, .int .u64 0, .int .u64 0, .int .u64 0, .int .u64 0, .int .u64 0, .int .u64 0, .int .u64 0, .int .u64 0, .int .u64 0, .int .u64 0, .int .u64 0, .int .u64 0] 31))
  have bx3 := below_setRow (cs := (K .u64 Z)) ((Below.refl w3.heap.size w3).alloc (Nat.le_refl _) (.cells #[.int .u64 0, .int .u64 0, .int .u64 0, .int .u64 0, .int .u64 0, .int .u64 0, .int .u64 0, .int .u64 0, .int .u64 0, .int .u64 0, .int .u64 0, .int .u64 0, .int .u64 0, .int .u64 0, .int .u64 0, .int .u64 0] 31)) (g := w3.heap.size) (Nat.le_refl _)
  generalize (w3.alloc (.cells #[.int .u64 0, .int .u64 0, .int .u64 0, .int .u64 0, .int .u64 0, .int .u64 0, .int .u64 0, .int .u64 0, .int .u64 0, .int .u64 0, .int .u64 0, .int .u64 0, .int .u64 0, .int .u64 0, .int .u64 0, .int .u64 0] 31)).setRow w3.heap.size (K .u64 Z) = X3 at n3 bx3 ⊢
  have N0' := TW.hide (blk_keep N0.out bx3)
  have N1' := TW.hide (blk_keep N1.out bx3)
  have N2' := TW.hide (blk_keep N2.out bx3)
  have R1' := TW.hide (blk_keep R1.out bx3)
  have R2' := TW.hide (blk_keep R2.out bx3)
  have NB' : Hid (Below B w X3) := below_row NB.out bx3 (le_of_below NB.out (by omega))
  have R3 := TW.hide n3
  clear n3 bx3
  clear N0 N1 N2 R1 R2 NB
  have N0 := N0'
  have N1 := N1'
  have N2 := N2'
  have R1 := R1'
  have R2 := R2'
  have NB := NB'
  clear N0' N1' N2' R1' R2' NB'
  generalize w3.heap.size = g3 at *
  refine HK.out _ _ ?_
  clear HK KK
  refine wp_seq_k fun KK hK => ?_
  have HK := TW.hide hK
  clear hK
  go_wp2_with (first | (refine wpList_load_row (by rfl) 31 _ (by rfl) (g3) (by rfl) 31 (K .u64 Z) (0, 0) _ R3.out Tryd.underlying31 rfl IZ.out ?_) | (refine wpList_load_row (by rfl) 31 _ (by rfl) (B + 1 + 1) (by rfl) 31 (K .u64 ms) (0, 0) _ N2.out Tryd.underlying31 rfl IM.out ?_))
  refine (H4.out _ (TO.out.below (hB ▸ NB.out)) (TP.out.below (hB ▸ NB.out))).mono ?_
  rintro e w4 ⟨rfl, hb4⟩
  have N0' := TW.hide (blk_keep N0.out hb4)
  have N1' := TW.hide (blk_keep N1.out hb4)
  have N2' := TW.hide (blk_keep N2.out hb4)
  have R1' := TW.hide (blk_keep R1.out hb4)
  have R2' := TW.hide (blk_keep R2.out hb4)
  have R3' := TW.hide (blk_keep R3.out hb4)
  have NB' : Hid (Below B w w4) := below_row NB.out hb4 (le_of_below NB.out (by omega))
  clear hb4
  clear N0 N1 N2 R1 R2 R3 NB
  have N0 := N0'
  have N1 := N1'
  have N2 := N2'
  have R1 := R1'
  have R2 := R2'
  have R3 := R3'
  have NB := NB'
  clear N0' N1' N2' R1' R2' R3' NB'
  go_wp2_with (first | (refine wpList_store_row (by rfl) 31 _ _ (by rfl) w4.heap.size (K .u64 vs) (by rfl) (by rfl) 31 _ (heap_new w4 _) IV.out OV.out (K_one _ _) ?_))
  have n4 := setRow_heap _ _ _ (K .u64 vs) _ _ (heap_new w4 (.cells #[.int .u64 0, .int .u64 0, .int .u64 0, .int .u64 0, .int .u64 0, .int .u64 0, .int .u64 0, .int .u64 0, .int .u64 0, .int .u64 0, .int .u64 0, .int .u64 0, .int .u64 0, .int .u64 0, .int .u64 0, .int .u64 0] 31))
  have bx4 := below_setRow (cs := (K .u64 vs)) ((Below.refl w4.heap.size w4).alloc (Nat.le_refl _) (.cells #[.int .u64 0, .int .u64 0, .int .u64 0, .int .u64 0, .int .u64 0, .int .u64 0, .int .u64 0, .int .u64 0, .int .u64 0, .int .u64 0, .int .u64 0, .int .u64 0, .int .u64 0, .int .u64 0, .int .u64 0, .int .u64 0] 31)) (g := w4.heap.size) (Nat.le_refl _)
  generalize (w4.alloc (.cells #[.int .u64 0, .int .u64 0, .int .u64 0, .int .u64 0, .int .u64 0, .int .u64 0, .int .u64 0, .int .u64 0, .int .u64 0, .int .u64 0, .int .u64 0, .int .u64 0, .int .u64 0, .int .u64 0, .int .u64 0, .int .u64 0] 31)).setRow w4.heap.size (K .u64 vs) = X4 at n4 bx4 ⊢
  have N0' := TW.hide (blk_keep N0.out bx4)
  have N1' := TW.hide (blk_keep N1.out bx4)
  have N2' := TW.hide (blk_keep N2.out bx4)
  have R1' := TW.hide (blk_keep R1.out bx4)
  have R2' := TW.hide (blk_keep R2.out bx4)
  have R3' := TW.hide (blk_keep R3.out bx4)
  have NB' : Hid (Below B w X4) := below_row NB.out bx4 (le_of_below NB.out (by omega))
  have R4 := TW.hide n4
  clear n4 bx4
  clear N0 N1 N2 R1 R2 R3 NB
  have N0 := N0'
  have N1 := N1'
  have N2 := N2'
  have R1 := R1'
  have R2 := R2'
  have R3 := R3'
  have NB := NB'
  clear N0' N1' N2' R1' R2' R3' NB'
  generalize w4.heap.size = g4 at *
  refine HK.out _ _ ?_
  clear HK KK
  refine wp_seq_k fun KK hK => ?_
  have HK := TW.hide hK
  clear hK
  go_wp2_with (first | (refine wpList_load_row (by rfl) 31 _ (by rfl) (B + 1) (by rfl) 31 (K .u64 ws) (0, 0) _ N1.out Tryd.underlying31 rfl IW.out ?_) | (refine wpList_load_row (by rfl) 31 _ (by rfl) (B + 1 + 1) (by rfl) 31 (K .u64 ms) (0, 0) _ N2.out Tryd.underlying31 rfl IM.out ?_))
  refine (H5.out _ (TO.out.below (hB ▸ NB.out)) (TP.out.below (hB ▸ NB.out))).mono ?_
  rintro e w5 ⟨rfl, hb5⟩
  have N0' := TW.hide (blk_keep N0.out hb5)
  have N1' := TW.hide (blk_keep N1.out hb5)
  have N2' := TW.hide (blk_keep N2.out hb5)
  have R1' := TW.hide (blk_keep R1.out hb5)
  have R2' := TW.hide (blk_keep R2.out hb5)
  have R3' := TW.hide (blk_keep R3.out hb5)
  have R4' := TW.hide (blk_keep R4.out hb5)
  have NB' : Hid (Below B w w5) := below_row NB.out hb5 (le_of_below NB.out (by omega))
  clear hb5
  clear N0 N1 N2 R1 R2 R3 R4 NB
  have N0 := N0'
  have N1 := N1'
  have N2 := N2'
  have R1 := R1'
  have R2 := R2'
  have R3 := R3'
  have R4 := R4'
  have NB := NB'
  clear N0' N1' N2' R1' R2' R3' R4' NB'
  go_wp2_with (first | (refine wpList_store_row (by rfl) 31 _ _ (by rfl) w5.heap.size (K .u64 O) (by rfl) (by rfl) 31 _ (heap_new w5 _) IO_.out OO.out (K_one _ _) ?_))
  have n5 := setRow_heap _ _ _ (K .u64 O) _ _ (heap_new w5 (.cells #[.int .u64 0, .int .u64 0, .int .u64 0, .int .u64 0, .int .u64 0, .int .u64 0, .int .u64 0, .int .u64 0, .int .u64 0, .int .u64 0, .int .u64 0, .int .u64 0, .int .u64 0, .int .u64 0, .int .u64 0, .int .u64 0] 31))
  have bx5 := below_setRow (cs := (K .u64 O)) ((Below.refl w5.heap.size w5).alloc (Nat.le_refl _) (.cells #[.int .u64 0, .int .u64 0, .int .u64 0, .int .u64 0, .int .u64 0, .int .u64 0, .int .u64 0, .int .u64 0, .int .u64 0, .int .u64 0, .int .u64 0, .int .u64 0, .int .u64 0, .int .u64 0, .int .u64 0, .int .u64 0] 31)) (g := w5.heap.size) (Nat.le_refl _)
  generalize (w5.alloc (.cells #[.int .u64 0, .int .u64 0, .int .u64 0, .int .u64 0, .int .u64 0, .int .u64 0, .int .u64 0, .int .u64 0, .int .u64 0, .int .u64 0, .int .u64 0, .int .u64 0, .int .u64 0, .int .u64 0, .int .u64 0, .int .u64 0] 31)).setRow w5.heap.size (K .u64 O) = X5 at n5 bx5 ⊢
  have N0' := TW.hide (blk_keep N0.out bx5)
  have N1' := TW.hide (blk_keep N1.out bx5)
  have N2' := TW.hide (blk_keep N2.out bx5)
  have R1' := TW.hide (blk_keep R1.out bx5)
  have R2' := TW.hide (blk_keep R2.out bx5)
  have R3' := TW.hide (blk_keep R3.out bx5)
  have R4' := TW.hide (blk_keep R4.out bx5)
  have NB' : Hid (Below B w X5) := below_row NB.out bx5 (le_of_below NB.out (by omega))
  have R5 := TW.hide n5
  clear n5 bx5
  clear N0 N1 N2 R1 R2 R3 R4 NB
  have N0 := N0'
  have N1 := N1'
  have N2 := N2'
  have R1 := R1'
  have R2 := R2'
  have R3 := R3'
  have R4 := R4'
  have NB := NB'
  clear N0' N1' N2' R1' R2' R3' R4' NB'
  generalize w5.heap.size = g5 at *
  refine HK.out _ _ ?_
  clear HK KK
  go_wp2
  have HT : Hid ((X5.heap[g2]? = some (.cells (K .u64 vs) 31 (0, 0)) ∧ X5.heap[B]? = some (.cells (K .u64 vs) 31 (0, 0)) ∧ X5.heap[g4]? = some (.cells (K .u64 vs) 31 (0, 0)) ∧ X5.heap[g1]? = some (.cells (K .u64 X) 31 (0, 0)) ∧ X5.heap[g5]? = some (.cells (K .u64 O) 31 (0, 0)) ∧ X5.heap[B + 1]? = some (.cells (K .u64 ws) 31 (0, 0)))) := ⟨R2.out, N0.out, R4.out, R1.out, R5.out, N1.out⟩
  refine wp_region_noPanic ?_
  refine RG.wp_region_L (fun _ => True) (fun Z' => Z'.heap[g2]? = some (.cells (K .u64 vs) 31 (0, 0)) ∧ Z'.heap[B]? = some (.cells (K .u64 vs) 31 (0, 0)) ∧ Z'.heap[g4]? = some (.cells (K .u64 vs) 31 (0, 0)) ∧ Z'.heap[g1]? = some (.cells (K .u64 X) 31 (0, 0)) ∧ Z'.heap[g5]? = some (.cells (K .u64 O) 31 (0, 0)) ∧ Z'.heap[B + 1]? = some (.cells (K .u64 ws) 31 (0, 0))) [] (by kernel_rfl) ?_
  refine RG.wpL_take (fuel := 0) (a' := ?A) [0, 1, 2, 3, 4, 5, 6, 7, 8, 9, 10, 11, 12, 13, 14, 15, 16, 17] (by kernel_rfl) (by kernel_rfl) (fun _ _ _ _ _ h => h) HT.out (fun _ => trivial) ?r ?_
  case r =>
    have q1 := Q1.out
    have q2 := Q2.out
    have q3 := Q3.out
    refine RG.RunsIf.weak (by rfl) (by rfl) (fun Z' hT => exec_load_row 31 _ (by rfl) (g2) (by rfl) 31 (K .u64 vs) (0, 0) _ hT.1 Tryd.underlying31 rfl IV.out) ?_
    simp only [List.getElem_toArray, List.getElem_cons_zero, List.getElem_cons_succ, Act.put, List.setIfInBounds_toArray, List.set_cons_zero, List.set_cons_succ]
    refine RG.RunsIf.weak (by rfl) (by rfl) (fun Z' hT => exec_load_row 31 _ (by rfl) (B) (by rfl) 31 (K .u64 vs) (0, 0) _ hT.2.1 Tryd.underlying31 rfl IV.out) ?_
    simp only [List.getElem_toArray, List.getElem_cons_zero, List.getElem_cons_succ, Act.put, List.setIfInBounds_toArray, List.set_cons_zero, List.set_cons_succ]
    iterate 2
      refine RG.RunsIf.weak (v := ?_) (by rfl) (by rfl) (fun Z' hT => ?_) ?_
      rotate_left
      · clear hT
        go_simp
        rfl
      simp only [List.getElem_toArray, List.getElem_cons_zero, List.getElem_cons_succ, Act.put, List.setIfInBounds_toArray, List.set_cons_zero, List.set_cons_succ]
    refine RG.RunsIf.weak (by rfl) (by rfl) (fun Z' hT => exec_load_row 31 _ (by rfl) (g4) (by rfl) 31 (K .u64 vs) (0, 0) _ hT.2.2.1 Tryd.underlying31 rfl IV.out) ?_
    simp only [List.getElem_toArray, List.getElem_cons_zero, List.getElem_cons_succ, Act.put, List.setIfInBounds_toArray, List.set_cons_zero, List.set_cons_succ]
    refine RG.RunsIf.weak (by rfl) (by rfl) (fun Z' hT => exec_load_row 31 _ (by rfl) (B) (by rfl) 31 (K .u64 vs) (0, 0) _ hT.2.1 Tryd.underlying31 rfl IV.out) ?_
    simp only [List.getElem_toArray, List.getElem_cons_zero, List.getElem_cons_succ, Act.put, List.setIfInBounds_toArray, List.set_cons_zero, List.set_cons_succ]
    iterate 3
      refine RG.RunsIf.weak (v := ?_) (by rfl) (by rfl) (fun Z' hT => ?_) ?_
      rotate_left
      · clear hT
        go_simp
        rfl
      simp only [List.getElem_toArray, List.getElem_cons_zero, List.getElem_cons_succ, Act.put, List.setIfInBounds_toArray, List.set_cons_zero, List.set_cons_succ]
    refine RG.RunsIf.weak (by rfl) (by rfl) (fun Z' hT => exec_load_row 31 _ (by rfl) (g1) (by rfl) 31 (K .u64 X) (0, 0) _ hT.2.2.2.1 Tryd.underlying31 rfl IX.out) ?_
    simp only [List.getElem_toArray, List.getElem_cons_zero, List.getElem_cons_succ, Act.put, List.setIfInBounds_toArray, List.set_cons_zero, List.set_cons_succ]
    refine RG.RunsIf.weak (by rfl) (by rfl) (fun Z' hT => exec_load_row 31 _ (by rfl) (g5) (by rfl) 31 (K .u64 O) (0, 0) _ hT.2.2.2.2.1 Tryd.underlying31 rfl IO_.out) ?_
    simp only [List.getElem_toArray, List.getElem_cons_zero, List.getElem_cons_succ, Act.put, List.setIfInBounds_toArray, List.set_cons_zero, List.set_cons_succ]
    iterate 1
      refine RG.RunsIf.weak (v := ?_) (by rfl) (by rfl) (fun Z' hT => ?_) ?_
      rotate_left
      · clear hT
        go_simp
        rfl
      simp only [List.getElem_toArray, List.getElem_cons_zero, List.getElem_cons_succ, Act.put, List.setIfInBounds_toArray, List.set_cons_zero, List.set_cons_succ]
    refine RG.RunsIf.weak (by rfl) (by rfl) (fun Z' hT => exec_load_row 31 _ (by rfl) (B) (by rfl) 31 (K .u64 vs) (0, 0) _ hT.2.1 Tryd.underlying31 rfl IV.out) ?_
    simp only [List.getElem_toArray, List.getElem_cons_zero, List.getElem_cons_succ, Act.put, List.setIfInBounds_toArray, List.set_cons_zero, List.set_cons_succ]
    refine RG.RunsIf.weak (by rfl) (by rfl) (fun Z' hT => exec_load_row 31 _ (by rfl) (B + 1) (by rfl) 31 (K .u64 ws) (0, 0) _ hT.2.2.2.2.2 Tryd.underlying31 rfl IW.out) ?_
    simp only [List.getElem_toArray, List.getElem_cons_zero, List.getElem_cons_succ, Act.put, List.setIfInBounds_toArray, List.set_cons_zero, List.set_cons_succ]
    iterate 4
      refine RG.RunsIf.weak (v := ?_) (by rfl) (by rfl) (fun Z' hT => ?_) ?_
      rotate_left
      · clear hT
        go_simp
        rfl
      simp only [List.getElem_toArray, List.getElem_cons_zero, List.getElem_cons_succ, Act.put, List.setIfInBounds_toArray, List.set_cons_zero, List.set_cons_succ]
    exact RG.RunsIf.nil
  refine RG.wpL_done (by kernel_rfl) ?_ _
  refine NoPanic.normal ?_
  go_wp2
  go_ret
  exact ⟨rfl, NB.out.drew⟩
end MX
end Go.Proofs.YtkilackhomhpgaaDoor
