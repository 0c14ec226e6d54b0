/-
  What the law MixsBack does: a round and a step, there and back.
-/
import Derived.Test.YtecepllidmkmhabDoorRounds
import Derived.Test.YtecepllidmkmhabDoorGP
import Derived.Test.YtecepllidmkmhabDoorStructs
import Derived.Test.YtecepllidmkmhabDoorInv
namespace Go.Proofs.YtecepllidmkmhabDoor
open Go.RowKit
set_option linter.unusedVariables false
set_option linter.unusedSimpArgs false
namespace MX
open Turn
attribute [local go_sem ↓] Go.wp_at_zero Go.wp_at_succ
set_option maxRecDepth 100000 in
theorem alive (w : World) (ti : Tab w 0 .u32 ivL) : Calls Tryd.prog 12 #[] w fun e w' => e = .returned (.bool true) ∧ Below w.heap.size w w' := by
  have hiv := iv w ti
  have HIV := TW.hide hiv
  have i8 := TW.hide (info8 ivL rfl)
  have o8 := TW.hide (size8 (List.replicate 8 0) ivL rfl rfl)
  clear hiv ti
  go_enter Tryd.func12, Tryd.ntmps12
  refine wp_seq_k fun K hK => ?_
  have HK := TW.hide hK
  clear hK
  go_wp2
  refine HK.out _ _ ?_
  clear HK K
  refine wp_seq_k fun KK hK => ?_
  have HK := TW.hide hK
  clear hK
  go_wp2_with fail
  refine (HIV.out).mono ?_
  rintro e w1 ⟨rfl, hb1⟩
  have MB : Hid (Below w.heap.size w w1) := hb1
  have hle := hb1.size
  clear hb1
  go_wp2_with (first | (refine wpList_store_row (by rfl) 23 _ _ (by rfl) w1.heap.size (K .u32 ivL) (by rfl) (by rfl) 23 _ (heap_new w1 _) i8.out o8.out (K_one _ _) ?_))
  have nO := setRow_heap _ _ _ (K .u32 ivL) _ _ (heap_new w1 (.cells #[.int .u32 0, .int .u32 0, .int .u32 0, .int .u32 0, .int .u32 0, .int .u32 0, .int .u32 0, .int .u32 0] 23))
  have bO := below_setRow (cs := (K .u32 ivL)) ((Below.refl w1.heap.size w1).alloc (Nat.le_refl _) (.cells #[.int .u32 0, .int .u32 0, .int .u32 0, .int .u32 0, .int .u32 0, .int .u32 0, .int .u32 0, .int .u32 0] 23)) (g := w1.heap.size) (Nat.le_refl _)
  generalize (w1.alloc (.cells #[.int .u32 0, .int .u32 0, .int .u32 0, .int .u32 0, .int .u32 0, .int .u32 0, .int .u32 0, .int .u32 0] 23)).setRow w1.heap.size (K .u32 ivL) = X1 at nO bO ⊢
  refine HK.out _ _ ?_
  clear HK KK
  have c0 : X1.cell? ⟨w1.heap.size, 0, none⟩ = some (.int .u32 1779033703) := blk_cellK nO (i := 0) (by decide)
  have c7 : X1.cell? ⟨w1.heap.size, 7, none⟩ = some (.int .u32 1541459225) := blk_cellK nO (i := 7) (by decide)
  have FB := TW.hide (below_row MB.out bO hle)
  clear nO bO MB
  generalize w1.heap.size = g at *
  go_wp2
  go_ret
  exact ⟨rfl, FB.out⟩
set_option maxRecDepth 100000 in
set_option maxHeartbeats 2000000 in
theorem backBad (vs ms X Y Z T A : List Int) (a b c d x y n : Int) (w : World) (to : Tab w 1 .u8 ordL) (ti : Tab w 0 .u32 ivL) (hv : vs.length = 16) (hm : ms.length = 16) (hX : X.length = 16) (hY : Y.length = 16) (hZ : Z.length = 16) (hT : T.length = 16) (hA : A.length = 16) (hn : n < 0 ∨ 10 ≤ n)
    (h1 : (∀ W, Tab W 1 .u8 ordL → Calls Tryd.prog 13 #[.agg (K .u32 vs), .agg (K .u32 ms), .int .i64 n] W fun e w' => e = .returned (.tuple #[.agg (K .u32 X), .int .i64 1]) ∧ Below W.heap.size W w')) (h2 : (∀ W, Tab W 1 .u8 ordL → Calls Tryd.prog 14 #[.agg (K .u32 X), .agg (K .u32 ms), .int .i64 n] W fun e w' => e = .returned (.tuple #[.agg (K .u32 Y), .int .i64 1]) ∧ Below W.heap.size W w')) (h3 : (∀ W, Tab W 1 .u8 ordL → Calls Tryd.prog 14 #[.agg (K .u32 vs), .agg (K .u32 ms), .int .i64 n] W fun e w' => e = .returned (.tuple #[.agg (K .u32 Z), .int .i64 1]) ∧ Below W.heap.size W w')) (h4 : (∀ W, Tab W 1 .u8 ordL → Calls Tryd.prog 13 #[.agg (K .u32 Z), .agg (K .u32 ms), .int .i64 n] W fun e w' => e = .returned (.tuple #[.agg (K .u32 T), .int .i64 1]) ∧ Below W.heap.size W w')) :
    Calls Tryd.prog 4 #[.agg (putC vs ms a b c d x y n)] w fun e w' => e = .returned (.bool true) ∧ Below w.heap.size w w' := by
  have iv : (Tryd.prog.info? 34).map (·.size) = some (vs.map (Value.int .u32)).length := by rw [List.length_map, hv]; kernel_rfl
  have im : (Tryd.prog.info? 34).map (·.size) = some (ms.map (Value.int .u32)).length := by rw [List.length_map, hm]; kernel_rfl
  have iw := info16 vs hv
  have iX := info16 X hX
  have iY := info16 Y hY
  have iZ := info16 Z hZ
  have iT := info16 T hT
  have iA := info16 A hA
  have ow := size16 (List.replicate 16 0) vs rfl hv
  have oX := size16 (List.replicate 16 0) X rfl hX
  have oY := size16 (List.replicate 16 0) Y rfl hY
  have oZ := size16 (List.replicate 16 0) Z rfl hZ
  have oT := size16 (List.replicate 16 0) T rfl hT
  have oA := size16 X A hX hA
  have ov := size16 vs vs hv hv
  have q1 := fun W => eq16 W vs vs hv hv
  have hal := fun W (h : Below w.heap.size w W) => alive W (ti.below h)
  have hc := fun W B h => put_cell vs ms a b c d x y n hv hm W B h
  simp only [decide_true] at q1
  have TO := TW.hide to
  have H1 := TW.hide h1
  have H2 := TW.hide h2
  have H3 := TW.hide h3
  have H4 := TW.hide h4
  have IV := TW.hide iv
  have IM := TW.hide im
  have IW := TW.hide iw
  have IX := TW.hide iX
  have IY := TW.hide iY
  have IZ := TW.hide iZ
  have IT := TW.hide iT
  have IA := TW.hide iA
  have OW := TW.hide ow
  have OX := TW.hide oX
  have OY := TW.hide oY
  have OZ := TW.hide oZ
  have OT := TW.hide oT
  have OA := TW.hide oA
  have OV := TW.hide ov
  have Q1 := TW.hide q1
  have HC := TW.hide hc
  have HAL := TW.hide hal
  clear to h1 h2 h3 h4 iv im iw iX iY iZ iT iA ow oX oY oZ oT oA ov q1 hc hal
  clear ti
  have hb := ((Below.refl w.heap.size w).alloc (Nat.le_refl _) (.cells (putC vs ms a b c d x y n) 36))
  have n0 := (heap_new w (.cells (putC vs ms a b c d x y n) 36))
  go_enter Tryd.func4, Tryd.ntmps4
  refine wp_seq_k fun K hK => ?_
  have HK := TW.hide hK
  clear hK
  go_wp2
  refine HK.out _ _ ?_
  clear HK K
  change Code.wp _ _ _ _ (w.alloc (.cells (putC vs ms a b c d x y n) 36))
  generalize hWW : w.alloc (.cells (putC vs ms a b c d x y n) 36) = W at hb n0 ⊢
  have hW : W.heap.size = w.heap.size + 1 := by rw [← hWW]; simp
  clear hWW
  generalize hB : w.heap.size = B at *
  have N0 := TW.hide n0
  have NB := TW.hide hb
  clear n0 hb
  refine wp_seq_k fun KK hK => ?_
  have HK := TW.hide hK
  clear hK
  go_wp2_with fail
  refine (HAL.out _ NB.out).mono ?_
  rintro e w0 ⟨rfl, hb0⟩
  have N1 := TW.hide (blk_keep N0.out hb0)
  have NB1 : Hid (Below B w w0) := below_row NB.out hb0 (by omega)
  clear hb0 hW N0 NB
  have N0 := N1
  have NB := NB1
  clear N1 NB1
  go_wp2
  refine HK.out _ _ ?_
  clear HK KK
  refine wp_seq_k fun KK hK => ?_
  have HK := TW.hide hK
  clear hK
  obtain ⟨_, _, c1, c2, c3, c4, c5, c6, c7⟩ := HC.out _ _ N0.out
  go_wp2_with (first | (refine wpList_load_mid (by rfl) 34 _ (by rfl) (B) 0 (by rfl) (vs.map (Value.int .u32)) _ (HC.out _ _ N0.out).1 Tryd.underlying34 rfl IV.out ?_) | (refine wpList_load_mid (by rfl) 34 _ (by rfl) (B) 16 (by rfl) (ms.map (Value.int .u32)) _ (HC.out _ _ N0.out).2.1 Tryd.underlying34 rfl IM.out ?_))
  refine (H1.out _ (TO.out.below (hB ▸ NB.out))).mono ?_
  rintro e w1 ⟨rfl, hb1⟩
  clear c1 c2 c3 c4 c5 c6 c7
  have N0' := TW.hide (blk_keep N0.out hb1)
  have NB' : Hid (Below B w w1) := below_row NB.out hb1 (le_of_below NB.out (by omega))
  clear hb1
  clear N0 NB
  have N0 := N0'
  have NB := NB'
  clear N0' NB'
  have hl_g1_N0 := blk_lt N0.out
  go_wp2_with (first | (refine wpList_store_row (by rfl) 34 _ _ (by rfl) w1.heap.size (K .u32 X) (by rfl) (by rfl) 34 _ (heap_new w1 _) IX.out OX.out (K_one _ _) ?_))
  have n1 := setRow_heap _ _ _ (K .u32 X) _ _ (heap_new w1 (.cells #[.int .u32 0, .int .u32 0, .int .u32 0, .int .u32 0, .int .u32 0, .int .u32 0, .int .u32 0, .int .u32 0, .int .u32 0, .int .u32 0, .int .u32 0, .int .u32 0, .int .u32 0, .int .u32 0, .int .u32 0, .int .u32 0] 34))
  have bx1 := below_setRow (cs := (K .u32 X)) ((Below.refl w1.heap.size w1).alloc (Nat.le_refl _) (.cells #[.int .u32 0, .int .u32 0, .int .u32 0, .int .u32 0, .int .u32 0, .int .u32 0, .int .u32 0, .int .u32 0, .int .u32 0, .int .u32 0, .int .u32 0, .int .u32 0, .int .u32 0, .int .u32 0, .int .u32 0, .int .u32 0] 34)) (g := w1.heap.size) (Nat.le_refl _)
  generalize (w1.alloc (.cells #[.int .u32 0, .int .u32 0, .int .u32 0, .int .u32 0, .int .u32 0, .int .u32 0, .int .u32 0, .int .u32 0, .int .u32 0, .int .u32 0, .int .u32 0, .int .u32 0, .int .u32 0, .int .u32 0, .int .u32 0, .int .u32 0] 34)).setRow w1.heap.size (K .u32 X) = X1 at n1 bx1 ⊢
  have N0' := TW.hide (blk_keep N0.out bx1)
  have NB' : Hid (Below B w X1) := below_row NB.out bx1 (le_of_below NB.out (by omega))
  have R1 := TW.hide n1
  clear n1 bx1
  clear N0 NB
  have N0 := N0'
  have NB := NB'
  clear N0' NB'
  generalize w1.heap.size = g1 at *
  refine HK.out _ _ ?_
  clear HK KK
  refine wp_seq_k fun KK hK => ?_
  have HK := TW.hide hK
  clear hK
  obtain ⟨_, _, c1, c2, c3, c4, c5, c6, c7⟩ := HC.out _ _ N0.out
  go_wp2_with (first | (refine wpList_load_row (by rfl) 34 _ (by rfl) (g1) (by rfl) 34 (K .u32 X) (0, 0) _ R1.out Tryd.underlying34 rfl IX.out ?_) | (refine wpList_load_mid (by rfl) 34 _ (by rfl) (B) 16 (by rfl) (ms.map (Value.int .u32)) _ (HC.out _ _ N0.out).2.1 Tryd.underlying34 rfl IM.out ?_))
  refine (H2.out _ (TO.out.below (hB ▸ NB.out))).mono ?_
  rintro e w2 ⟨rfl, hb2⟩
  clear c1 c2 c3 c4 c5 c6 c7
  have N0' := TW.hide (blk_keep N0.out hb2)
  have R1' := TW.hide (blk_keep R1.out hb2)
  have NB' : Hid (Below B w w2) := below_row NB.out hb2 (le_of_below NB.out (by omega))
  clear hb2
  clear N0 R1 NB
  have N0 := N0'
  have R1 := R1'
  have NB := NB'
  clear N0' R1' NB'
  have hl_g2_N0 := blk_lt N0.out
  have hl_g2_R1 := blk_lt R1.out
  go_wp2_with (first | (refine wpList_store_row (by rfl) 34 _ _ (by rfl) w2.heap.size (K .u32 Y) (by rfl) (by rfl) 34 _ (heap_new w2 _) IY.out OY.out (K_one _ _) ?_))
  have n2 := setRow_heap _ _ _ (K .u32 Y) _ _ (heap_new w2 (.cells #[.int .u32 0, .int .u32 0, .int .u32 0, .int .u32 0, .int .u32 0, .int .u32 0, .int .u32 0, .int .u32 0, .int .u32 0, .int .u32 0, .int .u32 0, .int .u32 0, .int .u32 0, .int .u32 0, .int .u32 0, .int .u32 0] 34))
  have bx2 := below_setRow (cs := (K .u32 Y)) ((Below.refl w2.heap.size w2).alloc (Nat.le_refl _) (.cells #[.int .u32 0, .int .u32 0, .int .u32 0, .int .u32 0, .int .u32 0, .int .u32 0, .int .u32 0, .int .u32 0, .int .u32 0, .int .u32 0, .int .u32 0, .int .u32 0, .int .u32 0, .int .u32 0, .int .u32 0, .int .u32 0] 34)) (g := w2.heap.size) (Nat.le_refl _)
  generalize (w2.alloc (.cells #[.int .u32 0, .int .u32 0, .int .u32 0, .int .u32 0, .int .u32 0, .int .u32 0, .int .u32 0, .int .u32 0, .int .u32 0, .int .u32 0, .int .u32 0, .int .u32 0, .int .u32 0, .int .u32 0, .int .u32 0, .int .u32 0] 34)).setRow w2.heap.size (K .u32 Y) = X2 at n2 bx2 ⊢
  have N0' := TW.hide (blk_keep N0.out bx2)
  have R1' := TW.hide (blk_keep R1.out bx2)
  have NB' : Hid (Below B w X2) := below_row NB.out bx2 (le_of_below NB.out (by omega))
  have R2 := TW.hide n2
  clear n2 bx2
  clear N0 R1 NB
  have N0 := N0'
  have R1 := R1'
  have NB := NB'
  clear N0' R1' NB'
  generalize w2.heap.size = g2 at *
  refine HK.out _ _ ?_
  clear HK KK
  refine wp_seq_k fun KK hK => ?_
  have HK := TW.hide hK
  clear hK
  obtain ⟨_, _, c1, c2, c3, c4, c5, c6, c7⟩ := HC.out _ _ N0.out
  go_wp2_with (first | (refine wpList_load_mid (by rfl) 34 _ (by rfl) (B) 0 (by rfl) (vs.map (Value.int .u32)) _ (HC.out _ _ N0.out).1 Tryd.underlying34 rfl IV.out ?_) | (refine wpList_load_mid (by rfl) 34 _ (by rfl) (B) 16 (by rfl) (ms.map (Value.int .u32)) _ (HC.out _ _ N0.out).2.1 Tryd.underlying34 rfl IM.out ?_))
  refine (H3.out _ (TO.out.below (hB ▸ NB.out))).mono ?_
  rintro e w3 ⟨rfl, hb3⟩
  clear c1 c2 c3 c4 c5 c6 c7
  have N0' := TW.hide (blk_keep N0.out hb3)
  have R1' := TW.hide (blk_keep R1.out hb3)
  have R2' := TW.hide (blk_keep R2.out hb3)
  have NB' : Hid (Below B w w3) := below_row NB.out hb3 (le_of_below NB.out (by omega))
  clear hb3
  clear N0 R1 R2 NB
  have N0 := N0'
  have R1 := R1'
  have R2 := R2'
  have NB := NB'
  clear N0' R1' R2' NB'
  have hl_g3_N0 := blk_lt N0.out
  have hl_g3_R1 := blk_lt R1.out
  have hl_g3_R2 := blk_lt R2.out
  go_wp2_with (first | (refine wpList_store_row (by rfl) 34 _ _ (by rfl) w3.heap.size (K .u32 Z) (by rfl) (by rfl) 34 _ (heap_new w3 _) IZ.out OZ.out (K_one _ _) ?_))
  have n3 := setRow_heap _ _ _ (K .u32 Z) _ _ (heap_new w3 (.cells #[.int .u32 0, .int .u32 0, .int .u32 0, .int .u32 0, .int .u32 0, .int .u32 0, .int .u32 0, .int .u32 0, .int .u32 0, .int .u32 0, .int .u32 0, .int .u32 0, .int .u32 0, .int .u32 0, .int .u32 0, .int .u32 0] 34))
  have bx3 := below_setRow (cs := (K .u32 Z)) ((Below.refl w3.heap.size w3).alloc (Nat.le_refl _) (.cells #[.int .u32 0, .int .u32 0, .int .u32 0, .int .u32 0, .int .u32 0, .int .u32 0, .int .u32 0, .int .u32 0, .int .u32 0, .int .u32 0, .int .u32 0, .int .u32 0, .int .u32 0, .int .u32 0, .int .u32 0, .int .u32 0] 34)) (g := w3.heap.size) (Nat.le_refl _)
  generalize (w3.alloc (.cells #[.int .u32 0, .int .u32 0, .int .u32 0, .int .u32 0, .int .u32 0, .int .u32 0, .int .u32 0, .int .u32 0, .int .u32 0, .int .u32 0, .int .u32 0, .int .u32 0, .int .u32 0, .int .u32 0, .int .u32 0, .int .u32 0] 34)).setRow w3.heap.size (K .u32 Z) = X3 at n3 bx3 ⊢
  have N0' := TW.hide (blk_keep N0.out bx3)
  have R1' := TW.hide (blk_keep R1.out bx3)
  have R2' := TW.hide (blk_keep R2.out bx3)
  have NB' : Hid (Below B w X3) := below_row NB.out bx3 (le_of_below NB.out (by omega))
  have R3 := TW.hide n3
  clear n3 bx3
  clear N0 R1 R2 NB
  have N0 := N0'
  have R1 := R1'
  have R2 := R2'
  have NB := NB'
  clear N0' R1' R2' NB'
  generalize w3.heap.size = g3 at *
  refine HK.out _ _ ?_
  clear HK KK
  refine wp_seq_k fun KK hK => ?_
  have HK := TW.hide hK
  clear hK
  obtain ⟨_, _, c1, c2, c3, c4, c5, c6, c7⟩ := HC.out _ _ N0.out
  go_wp2_with (first | (refine wpList_load_row (by rfl) 34 _ (by rfl) (g3) (by rfl) 34 (K .u32 Z) (0, 0) _ R3.out Tryd.underlying34 rfl IZ.out ?_) | (refine wpList_load_mid (by rfl) 34 _ (by rfl) (B) 16 (by rfl) (ms.map (Value.int .u32)) _ (HC.out _ _ N0.out).2.1 Tryd.underlying34 rfl IM.out ?_))
  refine (H4.out _ (TO.out.below (hB ▸ NB.out))).mono ?_
  rintro e w4 ⟨rfl, hb4⟩
  clear c1 c2 c3 c4 c5 c6 c7
  have N0' := TW.hide (blk_keep N0.out hb4)
  have R1' := TW.hide (blk_keep R1.out hb4)
  have R2' := TW.hide (blk_keep R2.out hb4)
  have R3' := TW.hide (blk_keep R3.out hb4)
  have NB' : Hid (Below B w w4) := below_row NB.out hb4 (le_of_below NB.out (by omega))
  clear hb4
  clear N0 R1 R2 R3 NB
  have N0 := N0'
  have R1 := R1'
  have R2 := R2'
  have R3 := R3'
  have NB := NB'
  clear N0' R1' R2' R3' NB'
  have hl_g4_N0 := blk_lt N0.out
  have hl_g4_R1 := blk_lt R1.out
  have hl_g4_R2 := blk_lt R2.out
  have hl_g4_R3 := blk_lt R3.out
  go_wp2_with (first | (refine wpList_store_row (by rfl) 34 _ _ (by rfl) w4.heap.size (K .u32 T) (by rfl) (by rfl) 34 _ (heap_new w4 _) IT.out OT.out (K_one _ _) ?_))
  have n4 := setRow_heap _ _ _ (K .u32 T) _ _ (heap_new w4 (.cells #[.int .u32 0, .int .u32 0, .int .u32 0, .int .u32 0, .int .u32 0, .int .u32 0, .int .u32 0, .int .u32 0, .int .u32 0, .int .u32 0, .int .u32 0, .int .u32 0, .int .u32 0, .int .u32 0, .int .u32 0, .int .u32 0] 34))
  have bx4 := below_setRow (cs := (K .u32 T)) ((Below.refl w4.heap.size w4).alloc (Nat.le_refl _) (.cells #[.int .u32 0, .int .u32 0, .int .u32 0, .int .u32 0, .int .u32 0, .int .u32 0, .int .u32 0, .int .u32 0, .int .u32 0, .int .u32 0, .int .u32 0, .int .u32 0, .int .u32 0, .int .u32 0, .int .u32 0, .int .u32 0] 34)) (g := w4.heap.size) (Nat.le_refl _)
  generalize (w4.alloc (.cells #[.int .u32 0, .int .u32 0, .int .u32 0, .int .u32 0, .int .u32 0, .int .u32 0, .int .u32 0, .int .u32 0, .int .u32 0, .int .u32 0, .int .u32 0, .int .u32 0, .int .u32 0, .int .u32 0, .int .u32 0, .int .u32 0] 34)).setRow w4.heap.size (K .u32 T) = X4 at n4 bx4 ⊢
  have N0' := TW.hide (blk_keep N0.out bx4)
  have R1' := TW.hide (blk_keep R1.out bx4)
  have R2' := TW.hide (blk_keep R2.out bx4)
  have R3' := TW.hide (blk_keep R3.out bx4)
  have NB' : Hid (Below B w X4) := below_row NB.out bx4 (le_of_below NB.out (by omega))
  have R4 := TW.hide n4
  clear n4 bx4
  clear N0 R1 R2 R3 NB
  have N0 := N0'
  have R1 := R1'
  have R2 := R2'
  have R3 := R3'
  have NB := NB'
  clear N0' R1' R2' R3' NB'
  generalize w4.heap.size = g4 at *
  refine HK.out _ _ ?_
  clear HK KK
  obtain ⟨_, _, c1, c2, c3, c4, c5, c6, c7⟩ := HC.out _ _ N0.out
  obtain ⟨e1, k1⟩ : ∃ e, decide (n < 0) = e := ⟨_, rfl⟩
  obtain ⟨e2, k2⟩ : ∃ e, decide (9 < n) = e := ⟨_, rfl⟩
  have HE : Hid (e1 = true ∨ e2 = true) := by show _ ∨ _; rw [← k1, ← k2]; simp; omega
  clear hn
  go_wp2_with fail
  all_goals first | (go_ret; exact ⟨rfl, NB.out⟩) | (exfalso; have he := HE.out; clear HE; simp_all; done)
set_option maxRecDepth 100000 in
set_option maxHeartbeats 2000000 in
theorem backG1 (vs ms X Y Z T A : List Int) (a b c d x y n : Int) (w : World) (to : Tab w 1 .u8 ordL) (ti : Tab w 0 .u32 ivL) (hv : vs.length = 16) (hm : ms.length = 16) (hX : X.length = 16) (hY : Y.length = 16) (hZ : Z.length = 16) (hT : T.length = 16) (hA : A.length = 16) (hn0 : 0 ≤ n) (hn : n < 10)
    (h1 : (∀ W, Tab W 1 .u8 ordL → Calls Tryd.prog 13 #[.agg (K .u32 vs), .agg (K .u32 ms), .int .i64 n] W fun e w' => e = .returned (.tuple #[.agg (K .u32 X), .int .i64 0]) ∧ Below W.heap.size W w')) (h2 : (∀ W, Tab W 1 .u8 ordL → Calls Tryd.prog 14 #[.agg (K .u32 X), .agg (K .u32 ms), .int .i64 n] W fun e w' => e = .returned (.tuple #[.agg (K .u32 vs), .int .i64 0]) ∧ Below W.heap.size W w')) (h3 : (∀ W, Tab W 1 .u8 ordL → Calls Tryd.prog 14 #[.agg (K .u32 vs), .agg (K .u32 ms), .int .i64 n] W fun e w' => e = .returned (.tuple #[.agg (K .u32 Z), .int .i64 0]) ∧ Below W.heap.size W w')) (h4 : (∀ W, Tab W 1 .u8 ordL → Calls Tryd.prog 13 #[.agg (K .u32 Z), .agg (K .u32 ms), .int .i64 n] W fun e w' => e = .returned (.tuple #[.agg (K .u32 vs), .int .i64 0]) ∧ Below W.heap.size W w')) (h5 : (∀ W, Calls Tryd.prog 15 #[.agg (K .u32 vs), .int .i64 a, .int .i64 b, .int .i64 c, .int .i64 d, .int .u32 x, .int .u32 y] W fun e w' => e = .returned (.tuple #[.agg (K .u32 A), .int .i64 1]) ∧ Below W.heap.size W w')) :
    Calls Tryd.prog 4 #[.agg (putC vs ms a b c d x y n)] w fun e w' => e = .returned (.bool true) ∧ Below w.heap.size w w' := by
  have iv : (Tryd.prog.info? 34).map (·.size) = some (vs.map (Value.int .u32)).length := by rw [List.length_map, hv]; kernel_rfl
  have im : (Tryd.prog.info? 34).map (·.size) = some (ms.map (Value.int .u32)).length := by rw [List.length_map, hm]; kernel_rfl
  have iw := info16 vs hv
  have iX := info16 X hX
  have iY := info16 Y hY
  have iZ := info16 Z hZ
  have iT := info16 T hT
  have iA := info16 A hA
  have ow := size16 (List.replicate 16 0) vs rfl hv
  have oX := size16 (List.replicate 16 0) X rfl hX
  have oY := size16 (List.replicate 16 0) Y rfl hY
  have oZ := size16 (List.replicate 16 0) Z rfl hZ
  have oT := size16 (List.replicate 16 0) T rfl hT
  have oA := size16 X A hX hA
  have ov := size16 vs vs hv hv
  have q1 := fun W => eq16 W vs vs hv hv
  have hal := fun W (h : Below w.heap.size w W) => alive W (ti.below h)
  have hc := fun W B h => put_cell vs ms a b c d x y n hv hm W B h
  simp only [decide_true] at q1
  have TO := TW.hide to
  have H1 := TW.hide h1
  have H2 := TW.hide h2
  have H3 := TW.hide h3
  have H4 := TW.hide h4
  have IV := TW.hide iv
  have IM := TW.hide im
  have IW := TW.hide iw
  have IX := TW.hide iX
  have IY := TW.hide iY
  have IZ := TW.hide iZ
  have IT := TW.hide iT
  have IA := TW.hide iA
  have OW := TW.hide ow
  have OX := TW.hide oX
  have OY := TW.hide oY
  have OZ := TW.hide oZ
  have OT := TW.hide oT
  have OA := TW.hide oA
  have OV := TW.hide ov
  have Q1 := TW.hide q1
  have HC := TW.hide hc
  have HAL := TW.hide hal
  have H5 := TW.hide h5
  clear to h1 h2 h3 h4 iv im iw iX iY iZ iT iA ow oX oY oZ oT oA ov q1 hc hal h5
  clear ti
  have hb := ((Below.refl w.heap.size w).alloc (Nat.le_refl _) (.cells (putC vs ms a b c d x y n) 36))
  have n0 := (heap_new w (.cells (putC vs ms a b c d x y n) 36))
  go_enter Tryd.func4, Tryd.ntmps4
  refine wp_seq_k fun K hK => ?_
  have HK := TW.hide hK
  clear hK
  go_wp2
  refine HK.out _ _ ?_
  clear HK K
  change Code.wp _ _ _ _ (w.alloc (.cells (putC vs ms a b c d x y n) 36))
  generalize hWW : w.alloc (.cells (putC vs ms a b c d x y n) 36) = W at hb n0 ⊢
  have hW : W.heap.size = w.heap.size + 1 := by rw [← hWW]; simp
  clear hWW
  generalize hB : w.heap.size = B at *
  have N0 := TW.hide n0
  have NB := TW.hide hb
  clear n0 hb
  refine wp_seq_k fun KK hK => ?_
  have HK := TW.hide hK
  clear hK
  go_wp2_with fail
  refine (HAL.out _ NB.out).mono ?_
  rintro e w0 ⟨rfl, hb0⟩
  have N1 := TW.hide (blk_keep N0.out hb0)
  have NB1 : Hid (Below B w w0) := below_row NB.out hb0 (by omega)
  clear hb0 hW N0 NB
  have N0 := N1
  have NB := NB1
  clear N1 NB1
  go_wp2
  refine HK.out _ _ ?_
  clear HK KK
  refine wp_seq_k fun KK hK => ?_
  have HK := TW.hide hK
  clear hK
  obtain ⟨_, _, c1, c2, c3, c4, c5, c6, c7⟩ := HC.out _ _ N0.out
  go_wp2_with (first | (refine wpList_load_mid (by rfl) 34 _ (by rfl) (B) 0 (by rfl) (vs.map (Value.int .u32)) _ (HC.out _ _ N0.out).1 Tryd.underlying34 rfl IV.out ?_) | (refine wpList_load_mid (by rfl) 34 _ (by rfl) (B) 16 (by rfl) (ms.map (Value.int .u32)) _ (HC.out _ _ N0.out).2.1 Tryd.underlying34 rfl IM.out ?_))
  refine (H1.out _ (TO.out.below (hB ▸ NB.out))).mono ?_
  rintro e w1 ⟨rfl, hb1⟩
  clear c1 c2 c3 c4 c5 c6 c7
  have N0' := TW.hide (blk_keep N0.out hb1)
  have NB' : Hid (Below B w w1) := below_row NB.out hb1 (le_of_below NB.out (by omega))
  clear hb1
  clear N0 NB
  have N0 := N0'
  have NB := NB'
  clear N0' NB'
  have hl_g1_N0 := blk_lt N0.out
  go_wp2_with (first | (refine wpList_store_row (by rfl) 34 _ _ (by rfl) w1.heap.size (K .u32 X) (by rfl) (by rfl) 34 _ (heap_new w1 _) IX.out OX.out (K_one _ _) ?_))
  have n1 := setRow_heap _ _ _ (K .u32 X) _ _ (heap_new w1 (.cells #[.int .u32 0, .int .u32 0, .int .u32 0, .int .u32 0, .int .u32 0, .int .u32 0, .int .u32 0, .int .u32 0, .int .u32 0, .int .u32 0, .int .u32 0, .int .u32 0, .int .u32 0, .int .u32 0, .int .u32 0, .int .u32 0] 34))
  have bx1 := below_setRow (cs := (K .u32 X)) ((Below.refl w1.heap.size w1).alloc (Nat.le_refl _) (.cells #[.int .u32 0, .int .u32 0, .int .u32 0, .int .u32 0, .int .u32 0, .int .u32 0, .int .u32 0, .int .u32 0, .int .u32 0, .int .u32 0, .int .u32 0, .int .u32 0, .int .u32 0, .int .u32 0, .int .u32 0, .int .u32 0] 34)) (g := w1.heap.size) (Nat.le_refl _)
  generalize (w1.alloc (.cells #[.int .u32 0, .int .u32 0, .int .u32 0, .int .u32 0, .int .u32 0, .int .u32 0, .int .u32 0, .int .u32 0, .int .u32 0, .int .u32 0, .int .u32 0, .int .u32 0, .int .u32 0, .int .u32 0, .int .u32 0, .int .u32 0] 34)).setRow w1.heap.size (K .u32 X) = X1 at n1 bx1 ⊢
  have N0' := TW.hide (blk_keep N0.out bx1)
  have NB' : Hid (Below B w X1) := below_row NB.out bx1 (le_of_below NB.out (by omega))
  have R1 := TW.hide n1
  clear n1 bx1
  clear N0 NB
  have N0 := N0'
  have NB := NB'
  clear N0' NB'
  generalize w1.heap.size = g1 at *
  refine HK.out _ _ ?_
  clear HK KK
  refine wp_seq_k fun KK hK => ?_
  have HK := TW.hide hK
  clear hK
  obtain ⟨_, _, c1, c2, c3, c4, c5, c6, c7⟩ := HC.out _ _ N0.out
  go_wp2_with (first | (refine wpList_load_row (by rfl) 34 _ (by rfl) (g1) (by rfl) 34 (K .u32 X) (0, 0) _ R1.out Tryd.underlying34 rfl IX.out ?_) | (refine wpList_load_mid (by rfl) 34 _ (by rfl) (B) 16 (by rfl) (ms.map (Value.int .u32)) _ (HC.out _ _ N0.out).2.1 Tryd.underlying34 rfl IM.out ?_))
  refine (H2.out _ (TO.out.below (hB ▸ NB.out))).mono ?_
  rintro e w2 ⟨rfl, hb2⟩
  clear c1 c2 c3 c4 c5 c6 c7
  have N0' := TW.hide (blk_keep N0.out hb2)
  have R1' := TW.hide (blk_keep R1.out hb2)
  have NB' : Hid (Below B w w2) := below_row NB.out hb2 (le_of_below NB.out (by omega))
  clear hb2
  clear N0 R1 NB
  have N0 := N0'
  have R1 := R1'
  have NB := NB'
  clear N0' R1' NB'
  have hl_g2_N0 := blk_lt N0.out
  have hl_g2_R1 := blk_lt R1.out
  go_wp2_with (first | (refine wpList_store_row (by rfl) 34 _ _ (by rfl) w2.heap.size (K .u32 vs) (by rfl) (by rfl) 34 _ (heap_new w2 _) IW.out OW.out (K_one _ _) ?_))
  have n2 := setRow_heap _ _ _ (K .u32 vs) _ _ (heap_new w2 (.cells #[.int .u32 0, .int .u32 0, .int .u32 0, .int .u32 0, .int .u32 0, .int .u32 0, .int .u32 0, .int .u32 0, .int .u32 0, .int .u32 0, .int .u32 0, .int .u32 0, .int .u32 0, .int .u32 0, .int .u32 0, .int .u32 0] 34))
  have bx2 := below_setRow (cs := (K .u32 vs)) ((Below.refl w2.heap.size w2).alloc (Nat.le_refl _) (.cells #[.int .u32 0, .int .u32 0, .int .u32 0, .int .u32 0, .int .u32 0, .int .u32 0, .int .u32 0, .int .u32 0, .int .u32 0, .int .u32 0, .int .u32 0, .int .u32 0, .int .u32 0, .int .u32 0, .int .u32 0, .int .u32 0] 34)) (g := w2.heap.size) (Nat.le_refl _)
  generalize (w2.alloc (.cells #[.int .u32 0, .int .u32 0, .int .u32 0, .int .u32 0, .int .u32 0, .int .u32 0, .int .u32 0, .int .u32 0, .int .u32 0, .int .u32 0, .int .u32 0, .int .u32 0, .int .u32 0, .int .u32 0, .int .u32 0, .int .u32 0] 34)).setRow w2.heap.size (K .u32 vs) = X2 at n2 bx2 ⊢
  have N0' := TW.hide (blk_keep N0.out bx2)
  have R1' := TW.hide (blk_keep R1.out bx2)
  have NB' : Hid (Below B w X2) := below_row NB.out bx2 (le_of_below NB.out (by omega))
  have R2 := TW.hide n2
  clear n2 bx2
  clear N0 R1 NB
  have N0 := N0'
  have R1 := R1'
  have NB := NB'
  clear N0' R1' NB'
  generalize w2.heap.size = g2 at *
  refine HK.out _ _ ?_
  clear HK KK
  refine wp_seq_k fun KK hK => ?_
  have HK := TW.hide hK
  clear hK
  obtain ⟨_, _, c1, c2, c3, c4, c5, c6, c7⟩ := HC.out _ _ N0.out
  go_wp2_with (first | (refine wpList_load_mid (by rfl) 34 _ (by rfl) (B) 0 (by rfl) (vs.map (Value.int .u32)) _ (HC.out _ _ N0.out).1 Tryd.underlying34 rfl IV.out ?_) | (refine wpList_load_mid (by rfl) 34 _ (by rfl) (B) 16 (by rfl) (ms.map (Value.int .u32)) _ (HC.out _ _ N0.out).2.1 Tryd.underlying34 rfl IM.out ?_))
  refine (H3.out _ (TO.out.below (hB ▸ NB.out))).mono ?_
  rintro e w3 ⟨rfl, hb3⟩
  clear c1 c2 c3 c4 c5 c6 c7
  have N0' := TW.hide (blk_keep N0.out hb3)
  have R1' := TW.hide (blk_keep R1.out hb3)
  have R2' := TW.hide (blk_keep R2.out hb3)
  have NB' : Hid (Below B w w3) := below_row NB.out hb3 (le_of_below NB.out (by omega))
  clear hb3
  clear N0 R1 R2 NB
  have N0 := N0'
  have R1 := R1'
  have R2 := R2'
  have NB := NB'
  clear N0' R1' R2' NB'
  have hl_g3_N0 := blk_lt N0.out
  have hl_g3_R1 := blk_lt R1.out
  have hl_g3_R2 := blk_lt R2.out
  go_wp2_with (first | (refine wpList_store_row (by rfl) 34 _ _ (by rfl) w3.heap.size (K .u32 Z) (by rfl) (by rfl) 34 _ (heap_new w3 _) IZ.out OZ.out (K_one _ _) ?_))
  have n3 := setRow_heap _ _ _ (K .u32 Z) _ _ (heap_new w3 (.cells #[.int .u32 0, .int .u32 0, .int .u32 0, .int .u32 0, .int .u32 0, .int .u32 0, .int .u32 0, .int .u32 0, .int .u32 0, .int .u32 0, .int .u32 0, .int .u32 0, .int .u32 0, .int .u32 0, .int .u32 0, .int .u32 0] 34))
  have bx3 := below_setRow (cs := (K .u32 Z)) ((Below.refl w3.heap.size w3).alloc (Nat.le_refl _) (.cells #[.int .u32 0, .int .u32 0, .int .u32 0, .int .u32 0, .int .u32 0, .int .u32 0, .int .u32 0, .int .u32 0, .int .u32 0, .int .u32 0, .int .u32 0, .int .u32 0, .int .u32 0, .int .u32 0, .int .u32 0, .int .u32 0] 34)) (g := w3.heap.size) (Nat.le_refl _)
  generalize (w3.alloc (.cells #[.int .u32 0, .int .u32 0, .int .u32 0, .int .u32 0, .int .u32 0, .int .u32 0, .int .u32 0, .int .u32 0, .int .u32 0, .int .u32 0, .int .u32 0, .int .u32 0, .int .u32 0, .int .u32 0, .int .u32 0, .int .u32 0] 34)).setRow w3.heap.size (K .u32 Z) = X3 at n3 bx3 ⊢
  have N0' := TW.hide (blk_keep N0.out bx3)
  have R1' := TW.hide (blk_keep R1.out bx3)
  have R2' := TW.hide (blk_keep R2.out bx3)
  have NB' : Hid (Below B w X3) := below_row NB.out bx3 (le_of_below NB.out (by omega))
  have R3 := TW.hide n3
  clear n3 bx3
  clear N0 R1 R2 NB
  have N0 := N0'
  have R1 := R1'
  have R2 := R2'
  have NB := NB'
  clear N0' R1' R2' NB'
  generalize w3.heap.size = g3 at *
  refine HK.out _ _ ?_
  clear HK KK
  refine wp_seq_k fun KK hK => ?_
  have HK := TW.hide hK
  clear hK
  obtain ⟨_, _, c1, c2, c3, c4, c5, c6, c7⟩ := HC.out _ _ N0.out
  go_wp2_with (first | (refine wpList_load_row (by rfl) 34 _ (by rfl) (g3) (by rfl) 34 (K .u32 Z) (0, 0) _ R3.out Tryd.underlying34 rfl IZ.out ?_) | (refine wpList_load_mid (by rfl) 34 _ (by rfl) (B) 16 (by rfl) (ms.map (Value.int .u32)) _ (HC.out _ _ N0.out).2.1 Tryd.underlying34 rfl IM.out ?_))
  refine (H4.out _ (TO.out.below (hB ▸ NB.out))).mono ?_
  rintro e w4 ⟨rfl, hb4⟩
  clear c1 c2 c3 c4 c5 c6 c7
  have N0' := TW.hide (blk_keep N0.out hb4)
  have R1' := TW.hide (blk_keep R1.out hb4)
  have R2' := TW.hide (blk_keep R2.out hb4)
  have R3' := TW.hide (blk_keep R3.out hb4)
  have NB' : Hid (Below B w w4) := below_row NB.out hb4 (le_of_below NB.out (by omega))
  clear hb4
  clear N0 R1 R2 R3 NB
  have N0 := N0'
  have R1 := R1'
  have R2 := R2'
  have R3 := R3'
  have NB := NB'
  clear N0' R1' R2' R3' NB'
  have hl_g4_N0 := blk_lt N0.out
  have hl_g4_R1 := blk_lt R1.out
  have hl_g4_R2 := blk_lt R2.out
  have hl_g4_R3 := blk_lt R3.out
  go_wp2_with (first | (refine wpList_store_row (by rfl) 34 _ _ (by rfl) w4.heap.size (K .u32 vs) (by rfl) (by rfl) 34 _ (heap_new w4 _) IW.out OW.out (K_one _ _) ?_))
  have n4 := setRow_heap _ _ _ (K .u32 vs) _ _ (heap_new w4 (.cells #[.int .u32 0, .int .u32 0, .int .u32 0, .int .u32 0, .int .u32 0, .int .u32 0, .int .u32 0, .int .u32 0, .int .u32 0, .int .u32 0, .int .u32 0, .int .u32 0, .int .u32 0, .int .u32 0, .int .u32 0, .int .u32 0] 34))
  have bx4 := below_setRow (cs := (K .u32 vs)) ((Below.refl w4.heap.size w4).alloc (Nat.le_refl _) (.cells #[.int .u32 0, .int .u32 0, .int .u32 0, .int .u32 0, .int .u32 0, .int .u32 0, .int .u32 0, .int .u32 0, .int .u32 0, .int .u32 0, .int .u32 0, .int .u32 0, .int .u32 0, .int .u32 0, .int .u32 0, .int .u32 0] 34)) (g := w4.heap.size) (Nat.le_refl _)
  generalize (w4.alloc (.cells #[.int .u32 0, .int .u32 0, .int .u32 0, .int .u32 0, .int .u32 0, .int .u32 0, .int .u32 0, .int .u32 0, .int .u32 0, .int .u32 0, .int .u32 0, .int .u32 0, .int .u32 0, .int .u32 0, .int .u32 0, .int .u32 0] 34)).setRow w4.heap.size (K .u32 vs) = X4 at n4 bx4 ⊢
  have N0' := TW.hide (blk_keep N0.out bx4)
  have R1' := TW.hide (blk_keep R1.out bx4)
  have R2' := TW.hide (blk_keep R2.out bx4)
  have R3' := TW.hide (blk_keep R3.out bx4)
  have NB' : Hid (Below B w X4) := below_row NB.out bx4 (le_of_below NB.out (by omega))
  have R4 := TW.hide n4
  clear n4 bx4
  clear N0 R1 R2 R3 NB
  have N0 := N0'
  have R1 := R1'
  have R2 := R2'
  have R3 := R3'
  have NB := NB'
  clear N0' R1' R2' R3' NB'
  generalize w4.heap.size = g4 at *
  refine HK.out _ _ ?_
  clear HK KK
  obtain ⟨_, _, c1, c2, c3, c4, c5, c6, c7⟩ := HC.out _ _ N0.out
  have k1 : decide (n < 0) = false := by simp; omega
  have k2 : decide (9 < n) = false := by simp; omega
  refine wp_seq_k fun KK hK => ?_
  have HK := TW.hide hK
  clear hK
  go_wp2
  refine HK.out _ _ ?_
  clear HK KK c1 c2 c3 c4 c5 c6 c7 k1 k2
  have q1 := Q1.out
  refine wp_seq_k fun KK hK => ?_
  have HK := TW.hide hK
  clear hK
  go_wp2_with (first | (refine wpList_val (.agg (K .u32 vs)) (by rfl) (exec_load_row' 34 _ (by rfl) g2 (by rfl) 34 (K .u32 vs) (0, 0) _ R2.out Tryd.underlying34 rfl IW.out) ?_) | (refine wpList_val (.agg (K .u32 vs)) (by rfl) (exec_load_row' 34 _ (by rfl) g4 (by rfl) 34 (K .u32 vs) (0, 0) _ R4.out Tryd.underlying34 rfl IW.out) ?_) | (refine wpList_val (.agg (K .u32 vs)) (by rfl) (exec_load_mid 34 _ (by rfl) B 0 (by rfl) (vs.map (Value.int .u32)) _ (HC.out _ _ N0.out).1 Tryd.underlying34 rfl IV.out) ?_))
  refine HK.out _ _ ?_
  clear HK KK q1
  refine wp_seq_k fun KK hK => ?_
  have HK := TW.hide hK
  clear hK
  obtain ⟨_, _, c1, c2, c3, c4, c5, c6, c7⟩ := HC.out _ _ N0.out
  go_wp2_with (first | (refine wpList_load_mid (by rfl) 34 _ (by rfl) (B) 0 (by rfl) (vs.map (Value.int .u32)) _ (HC.out _ _ N0.out).1 Tryd.underlying34 rfl IV.out ?_))
  refine (H5.out _).mono ?_
  rintro e w5 ⟨rfl, hb5⟩
  clear c1 c2 c3 c4 c5 c6 c7
  have N0' := TW.hide (blk_keep N0.out hb5)
  have R1' := TW.hide (blk_keep R1.out hb5)
  have R2' := TW.hide (blk_keep R2.out hb5)
  have R3' := TW.hide (blk_keep R3.out hb5)
  have R4' := TW.hide (blk_keep R4.out hb5)
  have NB' : Hid (Below B w w5) := below_row NB.out hb5 (le_of_below NB.out (by omega))
  clear hb5
  clear N0 R1 R2 R3 R4 NB
  have N0 := N0'
  have R1 := R1'
  have R2 := R2'
  have R3 := R3'
  have R4 := R4'
  have NB := NB'
  clear N0' R1' R2' R3' R4' NB'
  go_wp2_with (first | (refine wpList_store_row (by rfl) 34 _ _ (by rfl) (g1) (K .u32 A) (by rfl) (by rfl) 34 _ R1.out IA.out OA.out (K_one _ _) ?_))
  have N0' : Hid ((w5.setRow g1 (K .u32 A)).heap[B]? = some (.cells (putC vs ms a b c d x y n) 36 (0, 0))) := by show _ = _; rw [setRow_other _ _ _ _ (by omega)]; exact N0.out
  have R1' := TW.hide (setRow_heap _ _ _ (K .u32 A) _ _ R1.out)
  have R2' : Hid ((w5.setRow g1 (K .u32 A)).heap[g2]? = some (.cells (K .u32 vs) 34 (0, 0))) := by show _ = _; rw [setRow_other _ _ _ _ (by omega)]; exact R2.out
  have R3' : Hid ((w5.setRow g1 (K .u32 A)).heap[g3]? = some (.cells (K .u32 Z) 34 (0, 0))) := by show _ = _; rw [setRow_other _ _ _ _ (by omega)]; exact R3.out
  have R4' : Hid ((w5.setRow g1 (K .u32 A)).heap[g4]? = some (.cells (K .u32 vs) 34 (0, 0))) := by show _ = _; rw [setRow_other _ _ _ _ (by omega)]; exact R4.out
  have NB' : Hid (Below B w (w5.setRow g1 (K .u32 A))) := below_setRow NB.out (by omega)
  generalize w5.setRow g1 (K .u32 A) = X5 at *
  clear N0 R1 R2 R3 R4 NB
  have N0 := N0'
  have R1 := R1'
  have R2 := R2'
  have R3 := R3'
  have R4 := R4'
  have NB := NB'
  clear N0' R1' R2' R3' R4' NB'
  refine HK.out _ _ ?_
  clear HK KK
  go_wp2
  go_ret
  exact ⟨rfl, NB.out⟩
set_option maxRecDepth 100000 in
set_option maxHeartbeats 2000000 in
theorem backG2 (vs ms X Y Z T A : List Int) (a b c d x y n : Int) (w : World) (to : Tab w 1 .u8 ordL) (ti : Tab w 0 .u32 ivL) (hv : vs.length = 16) (hm : ms.length = 16) (hX : X.length = 16) (hY : Y.length = 16) (hZ : Z.length = 16) (hT : T.length = 16) (hA : A.length = 16) (hn0 : 0 ≤ n) (hn : n < 10)
    (h1 : (∀ W, Tab W 1 .u8 ordL → Calls Tryd.prog 13 #[.agg (K .u32 vs), .agg (K .u32 ms), .int .i64 n] W fun e w' => e = .returned (.tuple #[.agg (K .u32 X), .int .i64 0]) ∧ Below W.heap.size W w')) (h2 : (∀ W, Tab W 1 .u8 ordL → Calls Tryd.prog 14 #[.agg (K .u32 X), .agg (K .u32 ms), .int .i64 n] W fun e w' => e = .returned (.tuple #[.agg (K .u32 vs), .int .i64 0]) ∧ Below W.heap.size W w')) (h3 : (∀ W, Tab W 1 .u8 ordL → Calls Tryd.prog 14 #[.agg (K .u32 vs), .agg (K .u32 ms), .int .i64 n] W fun e w' => e = .returned (.tuple #[.agg (K .u32 Z), .int .i64 0]) ∧ Below W.heap.size W w')) (h4 : (∀ W, Tab W 1 .u8 ordL → Calls Tryd.prog 13 #[.agg (K .u32 Z), .agg (K .u32 ms), .int .i64 n] W fun e w' => e = .returned (.tuple #[.agg (K .u32 vs), .int .i64 0]) ∧ Below W.heap.size W w')) (h5 : (∀ W, Calls Tryd.prog 15 #[.agg (K .u32 vs), .int .i64 a, .int .i64 b, .int .i64 c, .int .i64 d, .int .u32 x, .int .u32 y] W fun e w' => e = .returned (.tuple #[.agg (K .u32 A), .int .i64 0]) ∧ Below W.heap.size W w')) (h6 : (∀ W, Calls Tryd.prog 16 #[.agg (K .u32 A), .int .i64 a, .int .i64 b, .int .i64 c, .int .i64 d, .int .u32 x, .int .u32 y] W fun e w' => e = .returned (.tuple #[.agg (K .u32 vs), .int .i64 0]) ∧ Below W.heap.size W w')) :
    Calls Tryd.prog 4 #[.agg (putC vs ms a b c d x y n)] w fun e w' => e = .returned (.bool true) ∧ Below w.heap.size w w' := by
  have iv : (Tryd.prog.info? 34).map (·.size) = some (vs.map (Value.int .u32)).length := by rw [List.length_map, hv]; kernel_rfl
  have im : (Tryd.prog.info? 34).map (·.size) = some (ms.map (Value.int .u32)).length := by rw [List.length_map, hm]; kernel_rfl
  have iw := info16 vs hv
  have iX := info16 X hX
  have iY := info16 Y hY
  have iZ := info16 Z hZ
  have iT := info16 T hT
  have iA := info16 A hA
  have ow := size16 (List.replicate 16 0) vs rfl hv
  have oX := size16 (List.replicate 16 0) X rfl hX
  have oY := size16 (List.replicate 16 0) Y rfl hY
  have oZ := size16 (List.replicate 16 0) Z rfl hZ
  have oT := size16 (List.replicate 16 0) T rfl hT
  have oA := size16 X A hX hA
  have ov := size16 vs vs hv hv
  have q1 := fun W => eq16 W vs vs hv hv
  have hal := fun W (h : Below w.heap.size w W) => alive W (ti.below h)
  have hc := fun W B h => put_cell vs ms a b c d x y n hv hm W B h
  simp only [decide_true] at q1
  have TO := TW.hide to
  have H1 := TW.hide h1
  have H2 := TW.hide h2
  have H3 := TW.hide h3
  have H4 := TW.hide h4
  have IV := TW.hide iv
  have IM := TW.hide im
  have IW := TW.hide iw
  have IX := TW.hide iX
  have IY := TW.hide iY
  have IZ := TW.hide iZ
  have IT := TW.hide iT
  have IA := TW.hide iA
  have OW := TW.hide ow
  have OX := TW.hide oX
  have OY := TW.hide oY
  have OZ := TW.hide oZ
  have OT := TW.hide oT
  have OA := TW.hide oA
  have OV := TW.hide ov
  have Q1 := TW.hide q1
  have HC := TW.hide hc
  have HAL := TW.hide hal
  have H5 := TW.hide h5
  have H6 := TW.hide h6
  clear to h1 h2 h3 h4 iv im iw iX iY iZ iT iA ow oX oY oZ oT oA ov q1 hc hal h5 h6
  clear ti
  have hb := ((Below.refl w.heap.size w).alloc (Nat.le_refl _) (.cells (putC vs ms a b c d x y n) 36))
  have n0 := (heap_new w (.cells (putC vs ms a b c d x y n) 36))
  go_enter Tryd.func4, Tryd.ntmps4
  refine wp_seq_k fun K hK => ?_
  have HK := TW.hide hK
  clear hK
  go_wp2
  refine HK.out _ _ ?_
  clear HK K
  change Code.wp _ _ _ _ (w.alloc (.cells (putC vs ms a b c d x y n) 36))
  generalize hWW : w.alloc (.cells (putC vs ms a b c d x y n) 36) = W at hb n0 ⊢
  have hW : W.heap.size = w.heap.size + 1 := by rw [← hWW]; simp
  clear hWW
  generalize hB : w.heap.size = B at *
  have N0 := TW.hide n0
  have NB := TW.hide hb
  clear n0 hb
  refine wp_seq_k fun KK hK => ?_
  have HK := TW.hide hK
  clear hK
  go_wp2_with fail
  refine (HAL.out _ NB.out).mono ?_
  rintro e w0 ⟨rfl, hb0⟩
  have N1 := TW.hide (blk_keep N0.out hb0)
  have NB1 : Hid (Below B w w0) := below_row NB.out hb0 (by omega)
  clear hb0 hW N0 NB
  have N0 := N1
  have NB := NB1
  clear N1 NB1
  go_wp2
  refine HK.out _ _ ?_
  clear HK KK
  refine wp_seq_k fun KK hK => ?_
  have HK := TW.hide hK
  clear hK
  obtain ⟨_, _, c1, c2, c3, c4, c5, c6, c7⟩ := HC.out _ _ N0.out
  go_wp2_with (first | (refine wpList_load_mid (by rfl) 34 _ (by rfl) (B) 0 (by rfl) (vs.map (Value.int .u32)) _ (HC.out _ _ N0.out).1 Tryd.underlying34 rfl IV.out ?_) | (refine wpList_load_mid (by rfl) 34 _ (by rfl) (B) 16 (by rfl) (ms.map (Value.int .u32)) _ (HC.out _ _ N0.out).2.1 Tryd.underlying34 rfl IM.out ?_))
  refine (H1.out _ (TO.out.below (hB ▸ NB.out))).mono ?_
  rintro e w1 ⟨rfl, hb1⟩
  clear c1 c2 c3 c4 c5 c6 c7
  have N0' := TW.hide (blk_keep N0.out hb1)
  have NB' : Hid (Below B w w1) := below_row NB.out hb1 (le_of_below NB.out (by omega))
  clear hb1
  clear N0 NB
  have N0 := N0'
  have NB := NB'
  clear N0' NB'
  have hl_g1_N0 := blk_lt N0.out
  go_wp2_with (first | (refine wpList_store_row (by rfl) 34 _ _ (by rfl) w1.heap.size (K .u32 X) (by rfl) (by rfl) 34 _ (heap_new w1 _) IX.out OX.out (K_one _ _) ?_))
  have n1 := setRow_heap _ _ _ (K .u32 X) _ _ (heap_new w1 (.cells #[.int .u32 0, .int .u32 0, .int .u32 0, .int .u32 0, .int .u32 0, .int .u32 0, .int .u32 0, .int .u32 0, .int .u32 0, .int .u32 0, .int .u32 0, .int .u32 0, .int .u32 0, .int .u32 0, .int .u32 0, .int .u32 0] 34))
  have bx1 := below_setRow (cs := (K .u32 X)) ((Below.refl w1.heap.size w1).alloc (Nat.le_refl _) (.cells #[.int .u32 0, .int .u32 0, .int .u32 0, .int .u32 0, .int .u32 0, .int .u32 0, .int .u32 0, .int .u32 0, .int .u32 0, .int .u32 0, .int .u32 0, .int .u32 0, .int .u32 0, .int .u32 0, .int .u32 0, .int .u32 0] 34)) (g := w1.heap.size) (Nat.le_refl _)
  generalize (w1.alloc (.cells #[.int .u32 0, .int .u32 0, .int .u32 0, .int .u32 0, .int .u32 0, .int .u32 0, .int .u32 0, .int .u32 0, .int .u32 0, .int .u32 0, .int .u32 0, .int .u32 0, .int .u32 0, .int .u32 0, .int .u32 0, .int .u32 0] 34)).setRow w1.heap.size (K .u32 X) = X1 at n1 bx1 ⊢
  have N0' := TW.hide (blk_keep N0.out bx1)
  have NB' : Hid (Below B w X1) := below_row NB.out bx1 (le_of_below NB.out (by omega))
  have R1 := TW.hide n1
  clear n1 bx1
  clear N0 NB
  have N0 := N0'
  have NB := NB'
  clear N0' NB'
  generalize w1.heap.size = g1 at *
  refine HK.out _ _ ?_
  clear HK KK
  refine wp_seq_k fun KK hK => ?_
  have HK := TW.hide hK
  clear hK
  obtain ⟨_, _, c1, c2, c3, c4, c5, c6, c7⟩ := HC.out _ _ N0.out
  go_wp2_with (first | (refine wpList_load_row (by rfl) 34 _ (by rfl) (g1) (by rfl) 34 (K .u32 X) (0, 0) _ R1.out Tryd.underlying34 rfl IX.out ?_) | (refine wpList_load_mid (by rfl) 34 _ (by rfl) (B) 16 (by rfl) (ms.map (Value.int .u32)) _ (HC.out _ _ N0.out).2.1 Tryd.underlying34 rfl IM.out ?_))
  refine (H2.out _ (TO.out.below (hB ▸ NB.out))).mono ?_
  rintro e w2 ⟨rfl, hb2⟩
  clear c1 c2 c3 c4 c5 c6 c7
  have N0' := TW.hide (blk_keep N0.out hb2)
  have R1' := TW.hide (blk_keep R1.out hb2)
  have NB' : Hid (Below B w w2) := below_row NB.out hb2 (le_of_below NB.out (by omega))
  clear hb2
  clear N0 R1 NB
  have N0 := N0'
  have R1 := R1'
  have NB := NB'
  clear N0' R1' NB'
  have hl_g2_N0 := blk_lt N0.out
  have hl_g2_R1 := blk_lt R1.out
  go_wp2_with (first | (refine wpList_store_row (by rfl) 34 _ _ (by rfl) w2.heap.size (K .u32 vs) (by rfl) (by rfl) 34 _ (heap_new w2 _) IW.out OW.out (K_one _ _) ?_))
  have n2 := setRow_heap _ _ _ (K .u32 vs) _ _ (heap_new w2 (.cells #[.int .u32 0, .int .u32 0, .int .u32 0, .int .u32 0, .int .u32 0, .int .u32 0, .int .u32 0, .int .u32 0, .int .u32 0, .int .u32 0, .int .u32 0, .int .u32 0, .int .u32 0, .int .u32 0, .int .u32 0, .int .u32 0] 34))
  have bx2 := below_setRow (cs := (K .u32 vs)) ((Below.refl w2.heap.size w2).alloc (Nat.le_refl _) (.cells #[.int .u32 0, .int .u32 0, .int .u32 0, .int .u32 0, .int .u32 0, .int .u32 0, .int .u32 0, .int .u32 0, .int .u32 0, .int .u32 0, .int .u32 0, .int .u32 0, .int .u32 0, .int .u32 0, .int .u32 0, .int .u32 0] 34)) (g := w2.heap.size) (Nat.le_refl _)
  generalize (w2.alloc (.cells #[.int .u32 0, .int .u32 0, .int .u32 0, .int .u32 0, .int .u32 0, .int .u32 0, .int .u32 0, .int .u32 0, .int .u32 0, .int .u32 0, .int .u32 0, .int .u32 0, .int .u32 0, .int .u32 0, .int .u32 0, .int .u32 0] 34)).setRow w2.heap.size (K .u32 vs) = X2 at n2 bx2 ⊢
  have N0' := TW.hide (blk_keep N0.out bx2)
  have R1' := TW.hide (blk_keep R1.out bx2)
  have NB' : Hid (Below B w X2) := below_row NB.out bx2 (le_of_below NB.out (by omega))
  have R2 := TW.hide n2
  clear n2 bx2
  clear N0 R1 NB
  have N0 := N0'
  have R1 := R1'
  have NB := NB'
  clear N0' R1' NB'
  generalize w2.heap.size = g2 at *
  refine HK.out _ _ ?_
  clear HK KK
  refine wp_seq_k fun KK hK => ?_
  have HK := TW.hide hK
  clear hK
  obtain ⟨_, _, c1, c2, c3, c4, c5, c6, c7⟩ := HC.out _ _ N0.out
  go_wp2_with (first | (refine wpList_load_mid (by rfl) 34 _ (by rfl) (B) 0 (by rfl) (vs.map (Value.int .u32)) _ (HC.out _ _ N0.out).1 Tryd.underlying34 rfl IV.out ?_) | (refine wpList_load_mid (by rfl) 34 _ (by rfl) (B) 16 (by rfl) (ms.map (Value.int .u32)) _ (HC.out _ _ N0.out).2.1 Tryd.underlying34 rfl IM.out ?_))
  refine (H3.out _ (TO.out.below (hB ▸ NB.out))).mono ?_
  rintro e w3 ⟨rfl, hb3⟩
  clear c1 c2 c3 c4 c5 c6 c7
  have N0' := TW.hide (blk_keep N0.out hb3)
  have R1' := TW.hide (blk_keep R1.out hb3)
  have R2' := TW.hide (blk_keep R2.out hb3)
  have NB' : Hid (Below B w w3) := below_row NB.out hb3 (le_of_below NB.out (by omega))
  clear hb3
  clear N0 R1 R2 NB
  have N0 := N0'
  have R1 := R1'
  have R2 := R2'
  have NB := NB'
  clear N0' R1' R2' NB'
  have hl_g3_N0 := blk_lt N0.out
  have hl_g3_R1 := blk_lt R1.out
  have hl_g3_R2 := blk_lt R2.out
  go_wp2_with (first | (refine wpList_store_row (by rfl) 34 _ _ (by rfl) w3.heap.size (K .u32 Z) (by rfl) (by rfl) 34 _ (heap_new w3 _) IZ.out OZ.out (K_one _ _) ?_))
  have n3 := setRow_heap _ _ _ (K .u32 Z) _ _ (heap_new w3 (.cells #[.int .u32 0, .int .u32 0, .int .u32 0, .int .u32 0, .int .u32 0, .int .u32 0, .int .u32 0, .int .u32 0, .int .u32 0, .int .u32 0, .int .u32 0, .int .u32 0, .int .u32 0, .int .u32 0, .int .u32 0, .int .u32 0] 34))
  have bx3 := below_setRow (cs := (K .u32 Z)) ((Below.refl w3.heap.size w3).alloc (Nat.le_refl _) (.cells #[.int .u32 0, .int .u32 0, .int .u32 0, .int .u32 0, .int .u32 0, .int .u32 0, .int .u32 0, .int .u32 0, .int .u32 0, .int .u32 0, .int .u32 0, .int .u32 0, .int .u32 0, .int .u32 0, .int .u32 0, .int .u32 0] 34)) (g := w3.heap.size) (Nat.le_refl _)
  generalize (w3.alloc (.cells #[.int .u32 0, .int .u32 0, .int .u32 0, .int .u32 0, .int .u32 0, .int .u32 0, .int .u32 0, .int .u32 0, .int .u32 0, .int .u32 0, .int .u32 0, .int .u32 0, .int .u32 0, .int .u32 0, .int .u32 0, .int .u32 0] 34)).setRow w3.heap.size (K .u32 Z) = X3 at n3 bx3 ⊢
  have N0' := TW.hide (blk_keep N0.out bx3)
  have R1' := TW.hide (blk_keep R1.out bx3)
  have R2' := TW.hide (blk_keep R2.out bx3)
  have NB' : Hid (Below B w X3) := below_row NB.out bx3 (le_of_below NB.out (by omega))
  have R3 := TW.hide n3
  clear n3 bx3
  clear N0 R1 R2 NB
  have N0 := N0'
  have R1 := R1'
  have R2 := R2'
  have NB := NB'
  clear N0' R1' R2' NB'
  generalize w3.heap.size = g3 at *
  refine HK.out _ _ ?_
  clear HK KK
  refine wp_seq_k fun KK hK => ?_
  have HK := TW.hide hK
  clear hK
  obtain ⟨_, _, c1, c2, c3, c4, c5, c6, c7⟩ := HC.out _ _ N0.out
  go_wp2_with (first | (refine wpList_load_row (by rfl) 34 _ (by rfl) (g3) (by rfl) 34 (K .u32 Z) (0, 0) _ R3.out Tryd.underlying34 rfl IZ.out ?_) | (refine wpList_load_mid (by rfl) 34 _ (by rfl) (B) 16 (by rfl) (ms.map (Value.int .u32)) _ (HC.out _ _ N0.out).2.1 Tryd.underlying34 rfl IM.out ?_))
  refine (H4.out _ (TO.out.below (hB ▸ NB.out))).mono ?_
  rintro e w4 ⟨rfl, hb4⟩
  clear c1 c2 c3 c4 c5 c6 c7
  have N0' := TW.hide (blk_keep N0.out hb4)
  have R1' := TW.hide (blk_keep R1.out hb4)
  have R2' := TW.hide (blk_keep R2.out hb4)
  have R3' := TW.hide (blk_keep R3.out hb4)
  have NB' : Hid (Below B w w4) := below_row NB.out hb4 (le_of_below NB.out (by omega))
  clear hb4
  clear N0 R1 R2 R3 NB
  have N0 := N0'
  have R1 := R1'
  have R2 := R2'
  have R3 := R3'
  have NB := NB'
  clear N0' R1' R2' R3' NB'
  have hl_g4_N0 := blk_lt N0.out
  have hl_g4_R1 := blk_lt R1.out
  have hl_g4_R2 := blk_lt R2.out
  have hl_g4_R3 := blk_lt R3.out
  go_wp2_with (first | (refine wpList_store_row (by rfl) 34 _ _ (by rfl) w4.heap.size (K .u32 vs) (by rfl) (by rfl) 34 _ (heap_new w4 _) IW.out OW.out (K_one _ _) ?_))
  have n4 := setRow_heap _ _ _ (K .u32 vs) _ _ (heap_new w4 (.cells #[.int .u32 0, .int .u32 0, .int .u32 0, .int .u32 0, .int .u32 0, .int .u32 0, .int .u32 0, .int .u32 0, .int .u32 0, .int .u32 0, .int .u32 0, .int .u32 0, .int .u32 0, .int .u32 0, .int .u32 0, .int .u32 0] 34))
  have bx4 := below_setRow (cs := (K .u32 vs)) ((Below.refl w4.heap.size w4).alloc (Nat.le_refl _) (.cells #[.int .u32 0, .int .u32 0, .int .u32 0, .int .u32 0, .int .u32 0, .int .u32 0, .int .u32 0, .int .u32 0, .int .u32 0, .int .u32 0, .int .u32 0, .int .u32 0, .int .u32 0, .int .u32 0, .int .u32 0, .int .u32 0] 34)) (g := w4.heap.size) (Nat.le_refl _)
  generalize (w4.alloc (.cells #[.int .u32 0, .int .u32 0, .int .u32 0, .int .u32 0, .int .u32 0, .int .u32 0, .int .u32 0, .int .u32 0, .int .u32 0, .int .u32 0, .int .u32 0, .int .u32 0, .int .u32 0, .int .u32 0, .int .u32 0, .int .u32 0] 34)).setRow w4.heap.size (K .u32 vs) = X4 at n4 bx4 ⊢
  have N0' := TW.hide (blk_keep N0.out bx4)
  have R1' := TW.hide (blk_keep R1.out bx4)
  have R2' := TW.hide (blk_keep R2.out bx4)
  have R3' := TW.hide (blk_keep R3.out bx4)
  have NB' : Hid (Below B w X4) := below_row NB.out bx4 (le_of_below NB.out (by omega))
  have R4 := TW.hide n4
  clear n4 bx4
  clear N0 R1 R2 R3 NB
  have N0 := N0'
  have R1 := R1'
  have R2 := R2'
  have R3 := R3'
  have NB := NB'
  clear N0' R1' R2' R3' NB'
  generalize w4.heap.size = g4 at *
  refine HK.out _ _ ?_
  clear HK KK
  obtain ⟨_, _, c1, c2, c3, c4, c5, c6, c7⟩ := HC.out _ _ N0.out
  have k1 : decide (n < 0) = false := by simp; omega
  have k2 : decide (9 < n) = false := by simp; omega
  refine wp_seq_k fun KK hK => ?_
  have HK := TW.hide hK
  clear hK
  go_wp2
  refine HK.out _ _ ?_
  clear HK KK c1 c2 c3 c4 c5 c6 c7 k1 k2
  have q1 := Q1.out
  refine wp_seq_k fun KK hK => ?_
  have HK := TW.hide hK
  clear hK
  go_wp2_with (first | (refine wpList_val (.agg (K .u32 vs)) (by rfl) (exec_load_row' 34 _ (by rfl) g2 (by rfl) 34 (K .u32 vs) (0, 0) _ R2.out Tryd.underlying34 rfl IW.out) ?_) | (refine wpList_val (.agg (K .u32 vs)) (by rfl) (exec_load_row' 34 _ (by rfl) g4 (by rfl) 34 (K .u32 vs) (0, 0) _ R4.out Tryd.underlying34 rfl IW.out) ?_) | (refine wpList_val (.agg (K .u32 vs)) (by rfl) (exec_load_mid 34 _ (by rfl) B 0 (by rfl) (vs.map (Value.int .u32)) _ (HC.out _ _ N0.out).1 Tryd.underlying34 rfl IV.out) ?_))
  refine HK.out _ _ ?_
  clear HK KK q1
  refine wp_seq_k fun KK hK => ?_
  have HK := TW.hide hK
  clear hK
  obtain ⟨_, _, c1, c2, c3, c4, c5, c6, c7⟩ := HC.out _ _ N0.out
  go_wp2_with (first | (refine wpList_load_mid (by rfl) 34 _ (by rfl) (B) 0 (by rfl) (vs.map (Value.int .u32)) _ (HC.out _ _ N0.out).1 Tryd.underlying34 rfl IV.out ?_))
  refine (H5.out _).mono ?_
  rintro e w5 ⟨rfl, hb5⟩
  clear c1 c2 c3 c4 c5 c6 c7
  have N0' := TW.hide (blk_keep N0.out hb5)
  have R1' := TW.hide (blk_keep R1.out hb5)
  have R2' := TW.hide (blk_keep R2.out hb5)
  have R3' := TW.hide (blk_keep R3.out hb5)
  have R4' := TW.hide (blk_keep R4.out hb5)
  have NB' : Hid (Below B w w5) := below_row NB.out hb5 (le_of_below NB.out (by omega))
  clear hb5
  clear N0 R1 R2 R3 R4 NB
  have N0 := N0'
  have R1 := R1'
  have R2 := R2'
  have R3 := R3'
  have R4 := R4'
  have NB := NB'
  clear N0' R1' R2' R3' R4' NB'
  go_wp2_with (first | (refine wpList_store_row (by rfl) 34 _ _ (by rfl) (g1) (K .u32 A) (by rfl) (by rfl) 34 _ R1.out IA.out OA.out (K_one _ _) ?_))
  have N0' : Hid ((w5.setRow g1 (K .u32 A)).heap[B]? = some (.cells (putC vs ms a b c d x y n) 36 (0, 0))) := by show _ = _; rw [setRow_other _ _ _ _ (by omega)]; exact N0.out
  have R1' := TW.hide (setRow_heap _ _ _ (K .u32 A) _ _ R1.out)
  have R2' : Hid ((w5.setRow g1 (K .u32 A)).heap[g2]? = some (.cells (K .u32 vs) 34 (0, 0))) := by show _ = _; rw [setRow_other _ _ _ _ (by omega)]; exact R2.out
  have R3' : Hid ((w5.setRow g1 (K .u32 A)).heap[g3]? = some (.cells (K .u32 Z) 34 (0, 0))) := by show _ = _; rw [setRow_other _ _ _ _ (by omega)]; exact R3.out
  have R4' : Hid ((w5.setRow g1 (K .u32 A)).heap[g4]? = some (.cells (K .u32 vs) 34 (0, 0))) := by show _ = _; rw [setRow_other _ _ _ _ (by omega)]; exact R4.out
  have NB' : Hid (Below B w (w5.setRow g1 (K .u32 A))) := below_setRow NB.out (by omega)
  generalize w5.setRow g1 (K .u32 A) = X5 at *
  clear N0 R1 R2 R3 R4 NB
  have N0 := N0'
  have R1 := R1'
  have R2 := R2'
  have R3 := R3'
  have R4 := R4'
  have NB := NB'
  clear N0' R1' R2' R3' R4' NB'
  refine HK.out _ _ ?_
  clear HK KK
  refine wp_seq_k fun KK hK => ?_
  have HK := TW.hide hK
  clear hK
  go_wp2
  refine HK.out _ _ ?_
  clear HK KK
  refine wp_seq_k fun KK hK => ?_
  have HK := TW.hide hK
  clear hK
  obtain ⟨_, _, c1, c2, c3, c4, c5, c6, c7⟩ := HC.out _ _ N0.out
  go_wp2_with (first | (refine wpList_load_row (by rfl) 34 _ (by rfl) (g1) (by rfl) 34 (K .u32 A) (0, 0) _ R1.out Tryd.underlying34 rfl IA.out ?_))
  refine (H6.out _).mono ?_
  rintro e w6 ⟨rfl, hb6⟩
  clear c1 c2 c3 c4 c5 c6 c7
  have N0' := TW.hide (blk_keep N0.out hb6)
  have R1' := TW.hide (blk_keep R1.out hb6)
  have R2' := TW.hide (blk_keep R2.out hb6)
  have R3' := TW.hide (blk_keep R3.out hb6)
  have R4' := TW.hide (blk_keep R4.out hb6)
  have NB' : Hid (Below B w w6) := below_row NB.out hb6 (le_of_below NB.out (by omega))
  clear hb6
  clear N0 R1 R2 R3 R4 NB
  have N0 := N0'
  have R1 := R1'
  have R2 := R2'
  have R3 := R3'
  have R4 := R4'
  have NB := NB'
  clear N0' R1' R2' R3' R4' NB'
  go_wp2_with (first | (refine wpList_store_row (by rfl) 34 _ _ (by rfl) (g2) (K .u32 vs) (by rfl) (by rfl) 34 _ R2.out IW.out rfl (K_one _ _) ?_))
  have N0' : Hid ((w6.setRow g2 (K .u32 vs)).heap[B]? = some (.cells (putC vs ms a b c d x y n) 36 (0, 0))) := by show _ = _; rw [setRow_other _ _ _ _ (by omega)]; exact N0.out
  have R1' : Hid ((w6.setRow g2 (K .u32 vs)).heap[g1]? = some (.cells (K .u32 A) 34 (0, 0))) := by show _ = _; rw [setRow_other _ _ _ _ (by omega)]; exact R1.out
  have R2' := TW.hide (setRow_heap _ _ _ (K .u32 vs) _ _ R2.out)
  have R3' : Hid ((w6.setRow g2 (K .u32 vs)).heap[g3]? = some (.cells (K .u32 Z) 34 (0, 0))) := by show _ = _; rw [setRow_other _ _ _ _ (by omega)]; exact R3.out
  have R4' : Hid ((w6.setRow g2 (K .u32 vs)).heap[g4]? = some (.cells (K .u32 vs) 34 (0, 0))) := by show _ = _; rw [setRow_other _ _ _ _ (by omega)]; exact R4.out
  have NB' : Hid (Below B w (w6.setRow g2 (K .u32 vs))) := below_setRow NB.out (by omega)
  generalize w6.setRow g2 (K .u32 vs) = X6 at *
  clear N0 R1 R2 R3 R4 NB
  have N0 := N0'
  have R1 := R1'
  have R2 := R2'
  have R3 := R3'
  have R4 := R4'
  have NB := NB'
  clear N0' R1' R2' R3' R4' NB'
  refine HK.out _ _ ?_
  clear HK KK
  have q1 := Q1.out
  go_wp2_with (first | (refine wpList_val (.agg (K .u32 vs)) (by rfl) (exec_load_row' 34 _ (by rfl) g2 (by rfl) 34 (K .u32 vs) (0, 0) _ R2.out Tryd.underlying34 rfl IW.out) ?_) | (refine wpList_val (.agg (K .u32 vs)) (by rfl) (exec_load_mid 34 _ (by rfl) B 0 (by rfl) (vs.map (Value.int .u32)) _ (HC.out _ _ N0.out).1 Tryd.underlying34 rfl IV.out) ?_))
  go_ret
  exact ⟨rfl, NB.out⟩
theorem backWalk (vs ms : List Int) (a b c d x y n : Int) (w : World) (to : Tab w 1 .u8 ordL) (ti : Tab w 0 .u32 ivL) (hv : vs.length = 16) (hm : ms.length = 16) (hV : Ws vs) (hM : Ws ms) (hx : W x) (hy : W y) :
    Calls Tryd.prog 4 #[.agg (putC vs ms a b c d x y n)] w fun e w' => e = .returned (.bool true) ∧ Below w.heap.size w w' := by
  by_cases h : 0 ≤ n ∧ n < 10
  · obtain ⟨k, rfl⟩ := Int.eq_ofNat_of_zero_le h.1
    have hk : k < 10 := by omega
    have hfl : (forthL vs ms k).length = 16 := by rw [forthL_length, hv]
    have hbl : (backL vs ms k).length = 16 := by rw [backL_length, hv]
    have r1 := fun W h1 => roundOk vs ms k W hv hm hV hM hk h1
    have r2 := fun W h1 => backrOk (forthL vs ms k) ms k W hfl hm (forthL_Ws ms k hV) hM hk h1
    have r3 := fun W h1 => backrOk vs ms k W hv hm hV hM hk h1
    have r4 := fun W h1 => roundOk (backL vs ms k) ms k W hbl hm (backL_Ws ms k hV) hM hk h1
    rw [back_forth vs ms k hv hV hM] at r2
    rw [forth_back vs ms k hv hV hM] at r4
    cases hf : fpB a b c d
    · exact backG1 vs ms _ vs _ vs (List.replicate 16 0) a b c d x y k w to ti hv hm hfl hv hbl hv rfl h.1 h.2 r1 r2 r3 r4 (fun W => gNo vs a b c d x y W hf)
    · obtain ⟨a0, a1, b0, b1, c0, c1, d0, d1, e1, e2, e3, e4, e5, e6⟩ := fpB_spec hf
      obtain ⟨p0, rfl⟩ := Int.eq_ofNat_of_zero_le a0
      obtain ⟨p1, rfl⟩ := Int.eq_ofNat_of_zero_le b0
      obtain ⟨p2, rfl⟩ := Int.eq_ofNat_of_zero_le c0
      obtain ⟨p3, rfl⟩ := Int.eq_ofNat_of_zero_le d0
      have hgl : (G4 vs p0 p1 p2 p3 x y).length = 16 := by rw [G4_length, hv]
      have s2 := fun W => uOk (G4 vs p0 p1 p2 p3 x y) p0 p1 p2 p3 x y W hgl (G4_Ws _ _ _ _ _ _ hV) hx hy (by omega) (by omega) (by omega) (by omega) (by omega) (by omega) (by omega) (by omega) (by omega) (by omega)
      rw [U_G vs p0 p1 p2 p3 x y hv hV hx hy (by omega) (by omega) (by omega) (by omega) (by omega) (by omega) (by omega) (by omega) (by omega) (by omega)] at s2
      exact backG2 vs ms _ vs _ vs (G4 vs p0 p1 p2 p3 x y) p0 p1 p2 p3 x y k w to ti hv hm hfl hv hbl hv hgl h.1 h.2 r1 r2 r3 r4
        (fun W => gOk vs p0 p1 p2 p3 x y W hv hV hx hy (by omega) (by omega) (by omega) (by omega) (by omega) (by omega) (by omega) (by omega) (by omega) (by omega)) s2
  · exact backBad vs ms (List.replicate 16 0) (List.replicate 16 0) (List.replicate 16 0) (List.replicate 16 0) vs a b c d x y n w to ti hv hm rfl rfl rfl rfl hv (by omega)
      (fun W _ => roundNo vs ms n W hv hm (by omega)) (fun W _ => backrNo _ ms n W rfl hm (by omega)) (fun W _ => backrNo vs ms n W hv hm (by omega)) (fun W _ => roundNo _ ms n W rfl hm (by omega))
end MX
end Go.Proofs.YtecepllidmkmhabDoor
