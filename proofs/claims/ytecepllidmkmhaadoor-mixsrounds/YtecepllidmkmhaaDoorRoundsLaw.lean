/-
  What the law MixsRounds does: Round and Unround of the program answer as the document's.
-/
import Derived.Test.YtecepllidmkmhaaDoorRounds
import Derived.Test.YtecepllidmkmhaaDoorRRounds
import Derived.Test.YtecepllidmkmhaaDoorStructs
namespace Go.Proofs.YtecepllidmkmhaaDoor
open Go.RowKit
set_option linter.unusedVariables false
set_option linter.unusedSimpArgs false
namespace MX
open Turn
attribute [local go_sem ↓] Go.wp_at_zero Go.wp_at_succ
set_option maxRecDepth 100000 in
set_option maxHeartbeats 4000000 in
theorem roundsGen (vs ms X Z : List Int) (E G : Int) (a b c d x y n : Int) (w : World) (to : Tab w 1 .u8 ordL) (hv : vs.length = 16) (hm : ms.length = 16) (hX : X.length = 16) (hZ : Z.length = 16)
    (h23 : ∀ W, Tab W 1 .u8 ordL → Calls Tryd.prog 20 #[.agg (K .u32 vs), .agg (K .u32 ms), .int .i64 n] W fun e w' => e = .returned (.tuple #[.agg (K .u32 X), .int .i64 E]) ∧ Below W.heap.size W w')
    (h24 : ∀ W, Calls Tryd.prog 21 #[.agg (K .u32 vs), .agg (K .u32 ms), .int .i64 n] W fun e w' => e = .returned (.tuple #[.agg (K .u32 X), .int .i64 E]) ∧ Below W.heap.size W w')
    (h25 : ∀ W, Tab W 1 .u8 ordL → Calls Tryd.prog 22 #[.agg (K .u32 vs), .agg (K .u32 ms), .int .i64 n] W fun e w' => e = .returned (.tuple #[.agg (K .u32 Z), .int .i64 G]) ∧ Below W.heap.size W w')
    (h26 : ∀ W, Calls Tryd.prog 23 #[.agg (K .u32 vs), .agg (K .u32 ms), .int .i64 n] W fun e w' => e = .returned (.tuple #[.agg (K .u32 Z), .int .i64 G]) ∧ Below W.heap.size W w') :
    Calls Tryd.prog 4 #[.agg (putC vs ms a b c d x y n)] w fun e w' => e = .returned (.bool true) ∧ Below w.heap.size w w' := by
  have iv : (Tryd.prog.info? 26).map (·.size) = some (vs.map (Value.int .u32)).length := by rw [List.length_map, hv]; kernel_rfl
  have im : (Tryd.prog.info? 26).map (·.size) = some (ms.map (Value.int .u32)).length := by rw [List.length_map, hm]; kernel_rfl
  have iX := info16 X hX
  have iZ := info16 Z hZ
  have oX := size16 (List.replicate 16 0) X rfl hX
  have oZ := size16 X Z hX hZ
  have q1 := fun W => eq16 W X X hX hX
  have q2 := fun W => eq16 W Z Z hZ hZ
  have hc := fun W B h => put_cell vs ms a b c d x y n hv hm W B h
  simp only [decide_true] at q1 q2
  have TO := TW.hide to
  have H23 := TW.hide h23
  have H24 := TW.hide h24
  have H25 := TW.hide h25
  have H26 := TW.hide h26
  have IV := TW.hide iv
  have IM := TW.hide im
  have IX := TW.hide iX
  have IZ := TW.hide iZ
  have OX := TW.hide oX
  have OZ := TW.hide oZ
  have Q1 := TW.hide q1
  have Q2 := TW.hide q2
  have HC := TW.hide hc
  clear to h23 h24 h25 h26 iv im iX iZ oX oZ q1 q2 hc
  have hb := ((Below.refl w.heap.size w).alloc (Nat.le_refl _) (.cells (putC vs ms a b c d x y n) 42))
  have n0 := (heap_new w (.cells (putC vs ms a b c d x y n) 42))
  go_enter Tryd.func4, Tryd.ntmps4
  refine wp_seq_k fun K hK => ?_
  have HK := TW.hide hK
  clear hK
  go_wp2
  refine HK.out _ _ ?_
  clear HK K
  change Code.wp _ _ _ _ (w.alloc (.cells (putC vs ms a b c d x y n) 42))
  generalize hWW : w.alloc (.cells (putC vs ms a b c d x y n) 42) = W at hb n0 ⊢
  have hW : W.heap.size = w.heap.size + 1 := by rw [← hWW]; simp
  clear hWW
  generalize hB : w.heap.size = B at *
  have N0 := TW.hide n0
  have NB := TW.hide hb
  clear n0 hb
  clear hW
  refine wp_seq_k fun KK hK => ?_
  have HK := TW.hide hK
  clear hK
  have cr := (HC.out _ _ N0.out).2.2.2.2.2.2.2.2
  go_wp2_with (first | (refine wpList_load_mid (by rfl) 26 _ (by rfl) (B) 0 (by rfl) (vs.map (Value.int .u32)) _ (HC.out _ _ N0.out).1 Tryd.underlying26 rfl IV.out ?_) | (refine wpList_load_mid (by rfl) 26 _ (by rfl) (B) 16 (by rfl) (ms.map (Value.int .u32)) _ (HC.out _ _ N0.out).2.1 Tryd.underlying26 rfl IM.out ?_))
  refine (H23.out _ (TO.out.below (hB ▸ NB.out))).mono ?_
  rintro e w1 ⟨rfl, hb1⟩
  clear cr
  have N0' := TW.hide (blk_keep N0.out hb1)
  have NB' : Hid (Below B w w1) := below_row NB.out hb1 (le_of_below NB.out (by omega))
  clear hb1
  clear N0 NB
  have N0 := N0'
  have NB := NB'
  clear N0' NB'
  have hl_g1_N0 := blk_lt N0.out
  go_wp2_with (first | (refine wpList_store_row (by rfl) 26 _ _ (by rfl) w1.heap.size (K .u32 X) (by rfl) (by rfl) 26 _ (heap_new w1 _) IX.out OX.out (K_one _ _) ?_))
  have n1 := setRow_heap _ _ _ (K .u32 X) _ _ (heap_new w1 (.cells #[.int .u32 0, .int .u32 0, .int .u32 0, .int .u32 0, .int .u32 0, .int .u32 0, .int .u32 0, .int .u32 0, .int .u32 0, .int .u32 0, .int .u32 0, .int .u32 0, .int .u32 0, .int .u32 0, .int .u32 0, .int .u32 0] 26))
  have bx1 := below_setRow (cs := (K .u32 X)) ((Below.refl w1.heap.size w1).alloc (Nat.le_refl _) (.cells #[.int .u32 0, .int .u32 0, .int .u32 0, .int .u32 0, .int .u32 0, .int .u32 0, .int .u32 0, .int .u32 0, .int .u32 0, .int .u32 0, .int .u32 0, .int .u32 0, .int .u32 0, .int .u32 0, .int .u32 0, .int .u32 0] 26)) (g := w1.heap.size) (Nat.le_refl _)
  generalize (w1.alloc (.cells #[.int .u32 0, .int .u32 0, .int .u32 0, .int .u32 0, .int .u32 0, .int .u32 0, .int .u32 0, .int .u32 0, .int .u32 0, .int .u32 0, .int .u32 0, .int .u32 0, .int .u32 0, .int .u32 0, .int .u32 0, .int .u32 0] 26)).setRow w1.heap.size (K .u32 X) = X1 at n1 bx1 ⊢
  have N0' := TW.hide (blk_keep N0.out bx1)
  have NB' : Hid (Below B w X1) := below_row NB.out bx1 (le_of_below NB.out (by omega))
  have R1 := TW.hide n1
  clear n1 bx1
  clear N0 NB
  have N0 := N0'
  have NB := NB'
  clear N0' NB'
  generalize w1.heap.size = g1 at *
  refine HK.out _ _ ?_
  clear HK KK
  refine wp_seq_k fun KK hK => ?_
  have HK := TW.hide hK
  clear hK
  have cr := (HC.out _ _ N0.out).2.2.2.2.2.2.2.2
  go_wp2_with (first | (refine wpList_load_mid (by rfl) 26 _ (by rfl) (B) 0 (by rfl) (vs.map (Value.int .u32)) _ (HC.out _ _ N0.out).1 Tryd.underlying26 rfl IV.out ?_) | (refine wpList_load_mid (by rfl) 26 _ (by rfl) (B) 16 (by rfl) (ms.map (Value.int .u32)) _ (HC.out _ _ N0.out).2.1 Tryd.underlying26 rfl IM.out ?_))
  refine (H24.out _).mono ?_
  rintro e w2 ⟨rfl, hb2⟩
  clear cr
  have N0' := TW.hide (blk_keep N0.out hb2)
  have R1' := TW.hide (blk_keep R1.out hb2)
  have NB' : Hid (Below B w w2) := below_row NB.out hb2 (le_of_below NB.out (by omega))
  clear hb2
  clear N0 R1 NB
  have N0 := N0'
  have R1 := R1'
  have NB := NB'
  clear N0' R1' NB'
  have hl_g2_N0 := blk_lt N0.out
  have hl_g2_R1 := blk_lt R1.out
  go_wp2_with (first | (refine wpList_store_row (by rfl) 26 _ _ (by rfl) w2.heap.size (K .u32 X) (by rfl) (by rfl) 26 _ (heap_new w2 _) IX.out OX.out (K_one _ _) ?_))
  have n2 := setRow_heap _ _ _ (K .u32 X) _ _ (heap_new w2 (.cells #[.int .u32 0, .int .u32 0, .int .u32 0, .int .u32 0, .int .u32 0, .int .u32 0, .int .u32 0, .int .u32 0, .int .u32 0, .int .u32 0, .int .u32 0, .int .u32 0, .int .u32 0, .int .u32 0, .int .u32 0, .int .u32 0] 26))
  have bx2 := below_setRow (cs := (K .u32 X)) ((Below.refl w2.heap.size w2).alloc (Nat.le_refl _) (.cells #[.int .u32 0, .int .u32 0, .int .u32 0, .int .u32 0, .int .u32 0, .int .u32 0, .int .u32 0, .int .u32 0, .int .u32 0, .int .u32 0, .int .u32 0, .int .u32 0, .int .u32 0, .int .u32 0, .int .u32 0, .int .u32 0] 26)) (g := w2.heap.size) (Nat.le_refl _)
  generalize (w2.alloc (.cells #[.int .u32 0, .int .u32 0, .int .u32 0, .int .u32 0, .int .u32 0, .int .u32 0, .int .u32 0, .int .u32 0, .int .u32 0, .int .u32 0, .int .u32 0, .int .u32 0, .int .u32 0, .int .u32 0, .int .u32 0, .int .u32 0] 26)).setRow w2.heap.size (K .u32 X) = X2 at n2 bx2 ⊢
  have N0' := TW.hide (blk_keep N0.out bx2)
  have R1' := TW.hide (blk_keep R1.out bx2)
  have NB' : Hid (Below B w X2) := below_row NB.out bx2 (le_of_below NB.out (by omega))
  have R2 := TW.hide n2
  clear n2 bx2
  clear N0 R1 NB
  have N0 := N0'
  have R1 := R1'
  have NB := NB'
  clear N0' R1' NB'
  generalize w2.heap.size = g2 at *
  refine HK.out _ _ ?_
  clear HK KK
  have q1 := Q1.out
  refine wp_seq_k fun KK hK => ?_
  have HK := TW.hide hK
  clear hK
  go_wp2_with (first | (refine wpList_val (.agg (K .u32 X)) (by rfl) (exec_load_row' 26 _ (by rfl) (g1) (by rfl) 26 (K .u32 X) (0, 0) _ R1.out Tryd.underlying26 rfl IX.out) ?_) | (refine wpList_val (.agg (K .u32 X)) (by rfl) (exec_load_row' 26 _ (by rfl) (g2) (by rfl) 26 (K .u32 X) (0, 0) _ R2.out Tryd.underlying26 rfl IX.out) ?_))
  refine HK.out _ _ ?_
  clear HK KK
  clear q1
  refine wp_seq_k fun KK hK => ?_
  have HK := TW.hide hK
  clear hK
  have cr := (HC.out _ _ N0.out).2.2.2.2.2.2.2.2
  go_wp2_with (first | (refine wpList_load_mid (by rfl) 26 _ (by rfl) (B) 0 (by rfl) (vs.map (Value.int .u32)) _ (HC.out _ _ N0.out).1 Tryd.underlying26 rfl IV.out ?_) | (refine wpList_load_mid (by rfl) 26 _ (by rfl) (B) 16 (by rfl) (ms.map (Value.int .u32)) _ (HC.out _ _ N0.out).2.1 Tryd.underlying26 rfl IM.out ?_))
  refine (H25.out _ (TO.out.below (hB ▸ NB.out))).mono ?_
  rintro e w3 ⟨rfl, hb3⟩
  clear cr
  have N0' := TW.hide (blk_keep N0.out hb3)
  have R1' := TW.hide (blk_keep R1.out hb3)
  have R2' := TW.hide (blk_keep R2.out hb3)
  have NB' : Hid (Below B w w3) := below_row NB.out hb3 (le_of_below NB.out (by omega))
  clear hb3
  clear N0 R1 R2 NB
  have N0 := N0'
  have R1 := R1'
  have R2 := R2'
  have NB := NB'
  clear N0' R1' R2' NB'
  go_wp2_with (first | (refine wpList_store_row (by rfl) 26 _ _ (by rfl) (g1) (K .u32 Z) (by rfl) (by rfl) 26 _ R1.out IZ.out OZ.out (K_one _ _) ?_))
  have N0' : Hid ((w3.setRow g1 (K .u32 Z)).heap[B]? = some (.cells (putC vs ms a b c d x y n) 42 (0, 0))) := by show _ = _; rw [setRow_other _ _ _ _ (by omega)]; exact N0.out
  have R1' := TW.hide (setRow_heap _ _ _ (K .u32 Z) _ _ R1.out)
  have R2' : Hid ((w3.setRow g1 (K .u32 Z)).heap[g2]? = some (.cells (K .u32 X) 26 (0, 0))) := by show _ = _; rw [setRow_other _ _ _ _ (by omega)]; exact R2.out
  have NB' : Hid (Below B w (w3.setRow g1 (K .u32 Z))) := below_setRow NB.out (by omega)
  generalize w3.setRow g1 (K .u32 Z) = X3 at *
  clear N0 R1 R2 NB
  have N0 := N0'
  have R1 := R1'
  have R2 := R2'
  have NB := NB'
  clear N0' R1' R2' NB'
  refine HK.out _ _ ?_
  clear HK KK
  refine wp_seq_k fun KK hK => ?_
  have HK := TW.hide hK
  clear hK
  have cr := (HC.out _ _ N0.out).2.2.2.2.2.2.2.2
  go_wp2_with (first | (refine wpList_load_mid (by rfl) 26 _ (by rfl) (B) 0 (by rfl) (vs.map (Value.int .u32)) _ (HC.out _ _ N0.out).1 Tryd.underlying26 rfl IV.out ?_) | (refine wpList_load_mid (by rfl) 26 _ (by rfl) (B) 16 (by rfl) (ms.map (Value.int .u32)) _ (HC.out _ _ N0.out).2.1 Tryd.underlying26 rfl IM.out ?_))
  refine (H26.out _).mono ?_
  rintro e w4 ⟨rfl, hb4⟩
  clear cr
  have N0' := TW.hide (blk_keep N0.out hb4)
  have R1' := TW.hide (blk_keep R1.out hb4)
  have R2' := TW.hide (blk_keep R2.out hb4)
  have NB' : Hid (Below B w w4) := below_row NB.out hb4 (le_of_below NB.out (by omega))
  clear hb4
  clear N0 R1 R2 NB
  have N0 := N0'
  have R1 := R1'
  have R2 := R2'
  have NB := NB'
  clear N0' R1' R2' NB'
  go_wp2_with (first | (refine wpList_store_row (by rfl) 26 _ _ (by rfl) (g2) (K .u32 Z) (by rfl) (by rfl) 26 _ R2.out IZ.out OZ.out (K_one _ _) ?_))
  have N0' : Hid ((w4.setRow g2 (K .u32 Z)).heap[B]? = some (.cells (putC vs ms a b c d x y n) 42 (0, 0))) := by show _ = _; rw [setRow_other _ _ _ _ (by omega)]; exact N0.out
  have R1' : Hid ((w4.setRow g2 (K .u32 Z)).heap[g1]? = some (.cells (K .u32 Z) 26 (0, 0))) := by show _ = _; rw [setRow_other _ _ _ _ (by omega)]; exact R1.out
  have R2' := TW.hide (setRow_heap _ _ _ (K .u32 Z) _ _ R2.out)
  have NB' : Hid (Below B w (w4.setRow g2 (K .u32 Z))) := below_setRow NB.out (by omega)
  generalize w4.setRow g2 (K .u32 Z) = X4 at *
  clear N0 R1 R2 NB
  have N0 := N0'
  have R1 := R1'
  have R2 := R2'
  have NB := NB'
  clear N0' R1' R2' NB'
  refine HK.out _ _ ?_
  clear HK KK
  have q2 := Q2.out
  go_wp2_with (first | (refine wpList_val (.agg (K .u32 Z)) (by rfl) (exec_load_row' 26 _ (by rfl) (g1) (by rfl) 26 (K .u32 Z) (0, 0) _ R1.out Tryd.underlying26 rfl IZ.out) ?_) | (refine wpList_val (.agg (K .u32 Z)) (by rfl) (exec_load_row' 26 _ (by rfl) (g2) (by rfl) 26 (K .u32 Z) (0, 0) _ R2.out Tryd.underlying26 rfl IZ.out) ?_))
  go_ret
  exact ⟨rfl, NB.out⟩
theorem roundsWalk (vs ms : List Int) (a b c d x y n : Int) (w : World) (to : Tab w 1 .u8 ordL) (hv : vs.length = 16) (hm : ms.length = 16) (hV : Ws vs) (hM : Ws ms) (hx : W x) (hy : W y) :
    Calls Tryd.prog 4 #[.agg (putC vs ms a b c d x y n)] w fun e w' => e = .returned (.bool true) ∧ Below w.heap.size w w' := by
  by_cases h : 0 ≤ n ∧ n < 10
  · obtain ⟨k, rfl⟩ := Int.eq_ofNat_of_zero_le h.1
    have hk : k < 10 := by omega
    exact roundsGen vs ms (forthL vs ms k) (backL vs ms k) 0 0 a b c d x y k w to hv hm (by rw [forthL_length, hv]) (by rw [backL_length, hv])
      (fun W h1 => roundOk vs ms k W hv hm hV hM hk h1) (fun W => rroundOk vs ms k W hv hm hV hM hk)
      (fun W h1 => backrOk vs ms k W hv hm hV hM hk h1) (fun W => rbackOk vs ms k W hv hm hV hM hk)
  · exact roundsGen vs ms (List.replicate 16 0) (List.replicate 16 0) 1 1 a b c d x y n w to hv hm rfl rfl
      (fun W _ => roundNo vs ms n W hv hm (by omega)) (fun W => rroundNo vs ms n W (by omega))
      (fun W _ => backrNo vs ms n W hv hm (by omega)) (fun W => rbackNo vs ms n W (by omega))
end MX
end Go.Proofs.YtecepllidmkmhaaDoor
