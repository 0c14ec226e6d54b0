/-
  What the law MixsGroups does: G and Ungroup of the program answer as the document's.
-/
import Derived.Test.YtecepllidmkmhaaGP
import Derived.Test.YtecepllidmkmhaaStructs
namespace Go.Proofs.Ytecepllidmkmhaa
open Go.RowKit
set_option linter.unusedVariables false
set_option linter.unusedSimpArgs false
namespace MX
open Turn
attribute [local go_sem ↓] Go.wp_at_zero Go.wp_at_succ
set_option maxRecDepth 100000 in
set_option maxHeartbeats 4000000 in
theorem groupsGen (vs ms X Z : List Int) (E G : Int) (a b c d x y n : Int) (w : World) (hv : vs.length = 16) (hm : ms.length = 16) (hX : X.length = 16) (hZ : Z.length = 16)
    (h23 : ∀ W, Calls Try.prog 4 #[.agg (K .u32 vs), .int .i64 a, .int .i64 b, .int .i64 c, .int .i64 d, .int .u32 x, .int .u32 y] W fun e w' => e = .returned (.tuple #[.agg (K .u32 X), .int .i64 E]) ∧ Below W.heap.size W w')
    (h24 : ∀ W, Calls Try.prog 5 #[.agg (K .u32 vs), .int .i64 a, .int .i64 b, .int .i64 c, .int .i64 d, .int .u32 x, .int .u32 y] W fun e w' => e = .returned (.tuple #[.agg (K .u32 X), .int .i64 E]) ∧ Below W.heap.size W w')
    (h25 : ∀ W, Calls Try.prog 6 #[.agg (K .u32 vs), .int .i64 a, .int .i64 b, .int .i64 c, .int .i64 d, .int .u32 x, .int .u32 y] W fun e w' => e = .returned (.tuple #[.agg (K .u32 Z), .int .i64 G]) ∧ Below W.heap.size W w')
    (h26 : ∀ W, Calls Try.prog 7 #[.agg (K .u32 vs), .int .i64 a, .int .i64 b, .int .i64 c, .int .i64 d, .int .u32 x, .int .u32 y] W fun e w' => e = .returned (.tuple #[.agg (K .u32 Z), .int .i64 G]) ∧ Below W.heap.size W w') :
    Calls Try.prog 3 #[.agg (putC vs ms a b c d x y n)] w fun e w' => e = .returned (.bool true) ∧ Below w.heap.size w w' := by
  have iv : (Try.prog.info? 23).map (·.size) = some (vs.map (Value.int .u32)).length := by rw [List.length_map, hv]; kernel_rfl
  have iX := info16 X hX
  have iZ := info16 Z hZ
  have oX := size16 (List.replicate 16 0) X rfl hX
  have oZ := size16 X Z hX hZ
  have q1 := fun W => eq16 W X X hX hX
  have q2 := fun W => eq16 W Z Z hZ hZ
  have hc := fun W B h => put_cell vs ms a b c d x y n hv hm W B h
  simp only [decide_true] at q1 q2
  have H23 := TW.hide h23
  have H24 := TW.hide h24
  have H25 := TW.hide h25
  have H26 := TW.hide h26
  have IV := TW.hide iv
  have IX := TW.hide iX
  have IZ := TW.hide iZ
  have OX := TW.hide oX
  have OZ := TW.hide oZ
  have Q1 := TW.hide q1
  have Q2 := TW.hide q2
  have HC := TW.hide hc
  clear h23 h24 h25 h26 iv iX iZ oX oZ q1 q2 hc
  have hb := ((Below.refl w.heap.size w).alloc (Nat.le_refl _) (.cells (putC vs ms a b c d x y n) 25))
  have n0 := (heap_new w (.cells (putC vs ms a b c d x y n) 25))
  go_enter Try.func3, Try.ntmps3
  refine wp_seq_k fun K hK => ?_
  have HK := TW.hide hK
  clear hK
  go_wp2
  refine HK.out _ _ ?_
  clear HK K
  change Code.wp _ _ _ _ (w.alloc (.cells (putC vs ms a b c d x y n) 25))
  generalize hWW : w.alloc (.cells (putC vs ms a b c d x y n) 25) = W at hb n0 ⊢
  have hW : W.heap.size = w.heap.size + 1 := by rw [← hWW]; simp
  clear hWW
  generalize hB : w.heap.size = B at *
  have N0 := TW.hide n0
  have NB := TW.hide hb
  clear n0 hb
  clear hW
  refine wp_seq_k fun KK hK => ?_
  have HK := TW.hide hK
  clear hK
  obtain ⟨_, _, c1, c2, c3, c4, c5, c6, _⟩ := HC.out _ _ N0.out
  go_wp2_with (first | (refine wpList_load_mid (by rfl) 23 _ (by rfl) (B) 0 (by rfl) (vs.map (Value.int .u32)) _ (HC.out _ _ N0.out).1 Try.underlying23 rfl IV.out ?_))
  refine (H23.out _).mono ?_
  rintro e w1 ⟨rfl, hb1⟩
  clear c1 c2 c3 c4 c5 c6
  have N0' := TW.hide (blk_keep N0.out hb1)
  have NB' : Hid (Below B w w1) := below_row NB.out hb1 (le_of_below NB.out (by omega))
  clear hb1
  clear N0 NB
  have N0 := N0'
  have NB := NB'
  clear N0' NB'
  have hl_g1_N0 := blk_lt N0.out
  go_wp2_with (first | (refine wpList_store_row (by rfl) 23 _ _ (by rfl) w1.heap.size (K .u32 X) (by rfl) (by rfl) 23 _ (heap_new w1 _) IX.out OX.out (K_one _ _) ?_))
  have n1 := setRow_heap _ _ _ (K .u32 X) _ _ (heap_new w1 (.cells #[.int .u32 0, .int .u32 0, .int .u32 0, .int .u32 0, .int .u32 0, .int .u32 0, .int .u32 0, .int .u32 0, .int .u32 0, .int .u32 0, .int .u32 0, .int .u32 0, .int .u32 0, .int .u32 0, .int .u32 0, .int .u32 0] 23))
  have bx1 := below_setRow (cs := (K .u32 X)) ((Below.refl w1.heap.size w1).alloc (Nat.le_refl _) (.cells #[.int .u32 0, .int .u32 0, .int .u32 0, .int .u32 0, .int .u32 0, .int .u32 0, .int .u32 0, .int .u32 0, .int .u32 0, .int .u32 0, .int .u32 0, .int .u32 0, .int .u32 0, .int .u32 0, .int .u32 0, .int .u32 0] 23)) (g := w1.heap.size) (Nat.le_refl _)
  generalize (w1.alloc (.cells #[.int .u32 0, .int .u32 0, .int .u32 0, .int .u32 0, .int .u32 0, .int .u32 0, .int .u32 0, .int .u32 0, .int .u32 0, .int .u32 0, .int .u32 0, .int .u32 0, .int .u32 0, .int .u32 0, .int .u32 0, .int .u32 0] 23)).setRow w1.heap.size (K .u32 X) = X1 at n1 bx1 ⊢
  have N0' := TW.hide (blk_keep N0.out bx1)
  have NB' : Hid (Below B w X1) := below_row NB.out bx1 (le_of_below NB.out (by omega))
  have R1 := TW.hide n1
  clear n1 bx1
  clear N0 NB
  have N0 := N0'
  have NB := NB'
  clear N0' NB'
  generalize w1.heap.size = g1 at *
  refine HK.out _ _ ?_
  clear HK KK
  refine wp_seq_k fun KK hK => ?_
  have HK := TW.hide hK
  clear hK
  obtain ⟨_, _, c1, c2, c3, c4, c5, c6, _⟩ := HC.out _ _ N0.out
  go_wp2_with (first | (refine wpList_load_mid (by rfl) 23 _ (by rfl) (B) 0 (by rfl) (vs.map (Value.int .u32)) _ (HC.out _ _ N0.out).1 Try.underlying23 rfl IV.out ?_))
  refine (H24.out _).mono ?_
  rintro e w2 ⟨rfl, hb2⟩
  clear c1 c2 c3 c4 c5 c6
  have N0' := TW.hide (blk_keep N0.out hb2)
  have R1' := TW.hide (blk_keep R1.out hb2)
  have NB' : Hid (Below B w w2) := below_row NB.out hb2 (le_of_below NB.out (by omega))
  clear hb2
  clear N0 R1 NB
  have N0 := N0'
  have R1 := R1'
  have NB := NB'
  clear N0' R1' NB'
  have hl_g2_N0 := blk_lt N0.out
  have hl_g2_R1 := blk_lt R1.out
  go_wp2_with (first | (refine wpList_store_row (by rfl) 23 _ _ (by rfl) w2.heap.size (K .u32 X) (by rfl) (by rfl) 23 _ (heap_new w2 _) IX.out OX.out (K_one _ _) ?_))
  have n2 := setRow_heap _ _ _ (K .u32 X) _ _ (heap_new w2 (.cells #[.int .u32 0, .int .u32 0, .int .u32 0, .int .u32 0, .int .u32 0, .int .u32 0, .int .u32 0, .int .u32 0, .int .u32 0, .int .u32 0, .int .u32 0, .int .u32 0, .int .u32 0, .int .u32 0, .int .u32 0, .int .u32 0] 23))
  have bx2 := below_setRow (cs := (K .u32 X)) ((Below.refl w2.heap.size w2).alloc (Nat.le_refl _) (.cells #[.int .u32 0, .int .u32 0, .int .u32 0, .int .u32 0, .int .u32 0, .int .u32 0, .int .u32 0, .int .u32 0, .int .u32 0, .int .u32 0, .int .u32 0, .int .u32 0, .int .u32 0, .int .u32 0, .int .u32 0, .int .u32 0] 23)) (g := w2.heap.size) (Nat.le_refl _)
  generalize (w2.alloc (.cells #[.int .u32 0, .int .u32 0, .int .u32 0, .int .u32 0, .int .u32 0, .int .u32 0, .int .u32 0, .int .u32 0, .int .u32 0, .int .u32 0, .int .u32 0, .int .u32 0, .int .u32 0, .int .u32 0, .int .u32 0, .int .u32 0] 23)).setRow w2.heap.size (K .u32 X) = X2 at n2 bx2 ⊢
  have N0' := TW.hide (blk_keep N0.out bx2)
  have R1' := TW.hide (blk_keep R1.out bx2)
  have NB' : Hid (Below B w X2) := below_row NB.out bx2 (le_of_below NB.out (by omega))
  have R2 := TW.hide n2
  clear n2 bx2
  clear N0 R1 NB
  have N0 := N0'
  have R1 := R1'
  have NB := NB'
  clear N0' R1' NB'
  generalize w2.heap.size = g2 at *
  refine HK.out _ _ ?_
  clear HK KK
  have q1 := Q1.out
  refine wp_seq_k fun KK hK => ?_
  have HK := TW.hide hK
  clear hK
  go_wp2_with (first | (refine wpList_val (.agg (K .u32 X)) (by rfl) (exec_load_row' 23 _ (by rfl) (g1) (by rfl) 23 (K .u32 X) (0, 0) _ R1.out Try.underlying23 rfl IX.out) ?_) | (refine wpList_val (.agg (K .u32 X)) (by rfl) (exec_load_row' 23 _ (by rfl) (g2) (by rfl) 23 (K .u32 X) (0, 0) _ R2.out Try.underlying23 rfl IX.out) ?_))
  refine HK.out _ _ ?_
  clear HK KK
  clear q1
  refine wp_seq_k fun KK hK => ?_
  have HK := TW.hide hK
  clear hK
  obtain ⟨_, _, c1, c2, c3, c4, c5, c6, _⟩ := HC.out _ _ N0.out
  go_wp2_with (first | (refine wpList_load_mid (by rfl) 23 _ (by rfl) (B) 0 (by rfl) (vs.map (Value.int .u32)) _ (HC.out _ _ N0.out).1 Try.underlying23 rfl IV.out ?_))
  refine (H25.out _).mono ?_
  rintro e w3 ⟨rfl, hb3⟩
  clear c1 c2 c3 c4 c5 c6
  have N0' := TW.hide (blk_keep N0.out hb3)
  have R1' := TW.hide (blk_keep R1.out hb3)
  have R2' := TW.hide (blk_keep R2.out hb3)
  have NB' : Hid (Below B w w3) := below_row NB.out hb3 (le_of_below NB.out (by omega))
  clear hb3
  clear N0 R1 R2 NB
  have N0 := N0'
  have R1 := R1'
  have R2 := R2'
  have NB := NB'
  clear N0' R1' R2' NB'
  go_wp2_with (first | (refine wpList_store_row (by rfl) 23 _ _ (by rfl) (g1) (K .u32 Z) (by rfl) (by rfl) 23 _ R1.out IZ.out OZ.out (K_one _ _) ?_))
  have N0' : Hid ((w3.setRow g1 (K .u32 Z)).heap[B]? = some (.cells (putC vs ms a b c d x y n) 25 (0, 0))) := by show _ = _; rw [setRow_other _ _ _ _ (by omega)]; exact N0.out
  have R1' := TW.hide (setRow_heap _ _ _ (K .u32 Z) _ _ R1.out)
  have R2' : Hid ((w3.setRow g1 (K .u32 Z)).heap[g2]? = some (.cells (K .u32 X) 23 (0, 0))) := by show _ = _; rw [setRow_other _ _ _ _ (by omega)]; exact R2.out
  have NB' : Hid (Below B w (w3.setRow g1 (K .u32 Z))) := below_setRow NB.out (by omega)
  generalize w3.setRow g1 (K .u32 Z) = X3 at *
  clear N0 R1 R2 NB
  have N0 := N0'
  have R1 := R1'
  have R2 := R2'
  have NB := NB'
  clear N0' R1' R2' NB'
  refine HK.out _ _ ?_
  clear HK KK
  refine wp_seq_k fun KK hK => ?_
  have HK := TW.hide hK
  clear hK
  obtain ⟨_, _, c1, c2, c3, c4, c5, c6, _⟩ := HC.out _ _ N0.out
  go_wp2_with (first | (refine wpList_load_mid (by rfl) 23 _ (by rfl) (B) 0 (by rfl) (vs.map (Value.int .u32)) _ (HC.out _ _ N0.out).1 Try.underlying23 rfl IV.out ?_))
  refine (H26.out _).mono ?_
  rintro e w4 ⟨rfl, hb4⟩
  clear c1 c2 c3 c4 c5 c6
  have N0' := TW.hide (blk_keep N0.out hb4)
  have R1' := TW.hide (blk_keep R1.out hb4)
  have R2' := TW.hide (blk_keep R2.out hb4)
  have NB' : Hid (Below B w w4) := below_row NB.out hb4 (le_of_below NB.out (by omega))
  clear hb4
  clear N0 R1 R2 NB
  have N0 := N0'
  have R1 := R1'
  have R2 := R2'
  have NB := NB'
  clear N0' R1' R2' NB'
  go_wp2_with (first | (refine wpList_store_row (by rfl) 23 _ _ (by rfl) (g2) (K .u32 Z) (by rfl) (by rfl) 23 _ R2.out IZ.out OZ.out (K_one _ _) ?_))
  have N0' : Hid ((w4.setRow g2 (K .u32 Z)).heap[B]? = some (.cells (putC vs ms a b c d x y n) 25 (0, 0))) := by show _ = _; rw [setRow_other _ _ _ _ (by omega)]; exact N0.out
  have R1' : Hid ((w4.setRow g2 (K .u32 Z)).heap[g1]? = some (.cells (K .u32 Z) 23 (0, 0))) := by show _ = _; rw [setRow_other _ _ _ _ (by omega)]; exact R1.out
  have R2' := TW.hide (setRow_heap _ _ _ (K .u32 Z) _ _ R2.out)
  have NB' : Hid (Below B w (w4.setRow g2 (K .u32 Z))) := below_setRow NB.out (by omega)
  generalize w4.setRow g2 (K .u32 Z) = X4 at *
  clear N0 R1 R2 NB
  have N0 := N0'
  have R1 := R1'
  have R2 := R2'
  have NB := NB'
  clear N0' R1' R2' NB'
  refine HK.out _ _ ?_
  clear HK KK
  have q2 := Q2.out
  go_wp2_with (first | (refine wpList_val (.agg (K .u32 Z)) (by rfl) (exec_load_row' 23 _ (by rfl) (g1) (by rfl) 23 (K .u32 Z) (0, 0) _ R1.out Try.underlying23 rfl IZ.out) ?_) | (refine wpList_val (.agg (K .u32 Z)) (by rfl) (exec_load_row' 23 _ (by rfl) (g2) (by rfl) 23 (K .u32 Z) (0, 0) _ R2.out Try.underlying23 rfl IZ.out) ?_))
  go_ret
  exact ⟨rfl, NB.out⟩
theorem groupsWalk (vs ms : List Int) (a b c d x y n : Int) (w : World) (hv : vs.length = 16) (hm : ms.length = 16) (hV : Ws vs) (hM : Ws ms) (hx : W x) (hy : W y) :
    Calls Try.prog 3 #[.agg (putC vs ms a b c d x y n)] w fun e w' => e = .returned (.bool true) ∧ Below w.heap.size w w' := by
  cases h : fpB a b c d
  · exact groupsGen vs ms (List.replicate 16 0) (List.replicate 16 0) 1 1 a b c d x y n w hv hm rfl rfl
      (fun W => gNo vs a b c d x y W h) (fun W => rgNo vs a b c d x y W h) (fun W => uNo vs a b c d x y W h) (fun W => ruNo vs a b c d x y W h)
  · obtain ⟨a0, a1, b0, b1, c0, c1, d0, d1, e1, e2, e3, e4, e5, e6⟩ := fpB_spec h
    obtain ⟨p0, rfl⟩ := Int.eq_ofNat_of_zero_le a0
    obtain ⟨p1, rfl⟩ := Int.eq_ofNat_of_zero_le b0
    obtain ⟨p2, rfl⟩ := Int.eq_ofNat_of_zero_le c0
    obtain ⟨p3, rfl⟩ := Int.eq_ofNat_of_zero_le d0
    exact groupsGen vs ms (G4 vs p0 p1 p2 p3 x y) (U4 vs p0 p1 p2 p3 x y) 0 0 p0 p1 p2 p3 x y n w hv hm (by rw [G4_length, hv]) (by rw [U4_length, hv])
      (fun W => gOk vs p0 p1 p2 p3 x y W hv hV hx hy (by omega) (by omega) (by omega) (by omega) (by omega) (by omega) (by omega) (by omega) (by omega) (by omega))
      (fun W => rgOk vs p0 p1 p2 p3 x y W hv hV hx hy (by omega) (by omega) (by omega) (by omega) (by omega) (by omega) (by omega) (by omega) (by omega) (by omega))
      (fun W => uOk vs p0 p1 p2 p3 x y W hv hV hx hy (by omega) (by omega) (by omega) (by omega) (by omega) (by omega) (by omega) (by omega) (by omega) (by omega))
      (fun W => ruOk vs p0 p1 p2 p3 x y W hv hV hx hy (by omega) (by omega) (by omega) (by omega) (by omega) (by omega) (by omega) (by omega) (by omega) (by omega))
end MX
end Go.Proofs.Ytecepllidmkmhaa
