/-
  What the law MixbRounds does: Round and Back of the program answer as the document's.
-/
import Derived.Test.YtkilackhomhpgaaDoorRRounds
import Derived.Test.YtkilackhomhpgaaDoorTables
import Derived.Test.YtkilackhomhpgaaDoorEql
namespace Go.Proofs.YtkilackhomhpgaaDoor
open Go.RowKit
set_option linter.unusedVariables false
set_option linter.unusedSimpArgs false
namespace MX
open Turn
attribute [local go_sem ↓] Go.wp_at_zero Go.wp_at_succ
theorem le_of_below {B : Nat} {w w' : World} (h : Below B w w') (hB : B ≤ w.heap.size) : B ≤ w'.heap.size := Nat.le_trans hB h.size
set_option maxRecDepth 100000 in
set_option maxHeartbeats 4000000 in
theorem roundsGen (vs ms X Z : List Int) (E G : Int) (n : Int) (w : World) (ti : Tab w 0 .u64 ivL) (to : Tab w 1 .u8 ordL) (tp : Tab w 2 .u8 plL) (hv : vs.length = 16) (hm : ms.length = 16) (hX : X.length = 16) (hZ : Z.length = 16)
    (h23 : ∀ W, Tab W 1 .u8 ordL → Tab W 2 .u8 plL → Calls Tryd.prog 23 #[.agg (K .u64 vs), .agg (K .u64 ms), .int .i64 n] W fun e w' => e = .returned (.tuple #[.agg (K .u64 X), .int .i64 E]) ∧ Below W.heap.size W w')
    (h24 : ∀ W, Calls Tryd.prog 24 #[.agg (K .u64 vs), .agg (K .u64 ms), .int .i64 n] W fun e w' => e = .returned (.tuple #[.agg (K .u64 X), .int .i64 E]) ∧ Below W.heap.size W w')
    (h25 : ∀ W, Tab W 1 .u8 ordL → Tab W 2 .u8 plL → Calls Tryd.prog 25 #[.agg (K .u64 vs), .agg (K .u64 ms), .int .i64 n] W fun e w' => e = .returned (.tuple #[.agg (K .u64 Z), .int .i64 G]) ∧ Below W.heap.size W w')
    (h26 : ∀ W, Calls Tryd.prog 26 #[.agg (K .u64 vs), .agg (K .u64 ms), .int .i64 n] W fun e w' => e = .returned (.tuple #[.agg (K .u64 Z), .int .i64 G]) ∧ Below W.heap.size W w') :
    Calls Tryd.prog 6 #[.agg (K .u64 vs), .agg (K .u64 ms), .int .i64 n] w fun e w' => e = .returned (.bool true) ∧ Below w.heap.size w w' := by
  have iv := info31 vs hv
  have im := info31 ms hm
  have iX := info31 X hX
  have iZ := info31 Z hZ
  have oX := size16 (List.replicate 16 0) X rfl hX
  have oZ := size16 (List.replicate 16 0) Z rfl hZ
  have q1 := fun W => eq16 W X X hX hX
  have q2 := fun W => eq16 W Z Z hZ hZ
  simp only [decide_true] at q1 q2
  have TI := TW.hide ti
  have TO := TW.hide to
  have TP := TW.hide tp
  have H23 := TW.hide h23
  have H24 := TW.hide h24
  have H25 := TW.hide h25
  have H26 := TW.hide h26
  have IV := TW.hide iv
  have IM := TW.hide im
  have IX := TW.hide iX
  have IZ := TW.hide iZ
  have OX := TW.hide oX
  have OZ := TW.hide oZ
  have Q1 := TW.hide q1
  have Q2 := TW.hide q2
  clear ti to tp h23 h24 h25 h26 iv im iX iZ oX oZ q1 q2
  have hb := (((Below.refl w.heap.size w).alloc (Nat.le_refl _) (.cells (K .u64 vs) 31)).alloc (by simp; try omega) (.cells (K .u64 ms) 31))
  have n0 := (blk_alloc (o' := .cells (K .u64 ms) 31) (heap_new w (.cells (K .u64 vs) 31)))
  have n1 := (heap_new (w.alloc (.cells (K .u64 vs) 31)) (.cells (K .u64 ms) 31))
  rw [show (w.alloc (.cells (K .u64 vs) 31)).heap.size = w.heap.size + 1 by simp] at n1
  go_enter Tryd.func6, Tryd.ntmps6
  refine wp_seq_k fun K hK => ?_
  have HK := TW.hide hK
  clear hK
  go_wp2
  refine HK.out _ _ ?_
  clear HK K
  change Code.wp _ _ _ _ ((w.alloc (.cells (K .u64 vs) 31)).alloc (.cells (K .u64 ms) 31))
  generalize hWW : (w.alloc (.cells (K .u64 vs) 31)).alloc (.cells (K .u64 ms) 31) = W at hb n0 n1 ⊢
  have hW : W.heap.size = w.heap.size + 1 + 1 := by rw [← hWW]; simp
  clear hWW
  generalize hB : w.heap.size = B at *
  have N0 := TW.hide n0
  have N1 := TW.hide n1
  have NB := TW.hide hb
  clear n0 n1 hb
  clear hW
  refine wp_seq_k fun KK hK => ?_
  have HK := TW.hide hK
  clear hK
  go_wp2_with (first | (refine wpList_load_row (by rfl) 31 _ (by rfl) (B) (by rfl) 31 (K .u64 vs) (0, 0) _ N0.out Tryd.underlying31 rfl IV.out ?_) | (refine wpList_load_row (by rfl) 31 _ (by rfl) (B + 1) (by rfl) 31 (K .u64 ms) (0, 0) _ N1.out Tryd.underlying31 rfl IM.out ?_))
  refine (H23.out _ (TO.out.below (hB ▸ NB.out)) (TP.out.below (hB ▸ NB.out))).mono ?_
  rintro e w1 ⟨rfl, hb1⟩
  have N0' := TW.hide (blk_keep N0.out hb1)
  have N1' := TW.hide (blk_keep N1.out hb1)
  have NB' : Hid (Below B w w1) := below_row NB.out hb1 (le_of_below NB.out (by omega))
  clear hb1
  clear N0 N1 NB
  have N0 := N0'
  have N1 := N1'
  have NB := NB'
  clear N0' N1' NB'
  go_wp2_with (first | (refine wpList_store_row (by rfl) 31 _ _ (by rfl) w1.heap.size (K .u64 X) (by rfl) (by rfl) 31 _ (heap_new w1 _) IX.out OX.out (K_one _ _) ?_))
  have n1 := setRow_heap _ _ _ (K .u64 X) _ _ (heap_new w1 (.cells #[.int .u64 0, .int .u64 0, .int .u64 0, .int .u64 0, .int .u64 0, .int .u64 0, .int .u64 0, .int .u64 0, .int .u64 0, .int .u64 0, .int .u64 0, .int .u64 0, .int .u64 0, .int .u64 0, .int .u64 0, .int .u64 0] 31))
  have bx1 := below_setRow (cs := (K .u64 X)) ((Below.refl w1.heap.size w1).alloc (Nat.le_refl _) (.cells #[.int .u64 0, .int .u64 0, .int .u64 0, .int .u64 0, .int .u64 0, .int .u64 0, .int .u64 0, .int .u64 0, .int .u64 0, .int .u64 0, .int .u64 0, .int .u64 0, .int .u64 0, .int .u64 0, .int .u64 0, .int .u64 0] 31)) (g := w1.heap.size) (Nat.le_refl _)
  generalize (w1.alloc (.cells #[.int .u64 0, .int .u64 0, .int .u64 0, .int .u64 0, .int .u64 0, .int .u64 0, .int .u64 0, .int .u64 0, .int .u64 0, .int .u64 0, .int .u64 0, .int .u64 0, .int .u64 0, .int .u64 0, .int .u64 0, .int .u64 0] 31)).setRow w1.heap.size (K .u64 X) = X1 at n1 bx1 ⊢
  have N0' := TW.hide (blk_keep N0.out bx1)
  have N1' := TW.hide (blk_keep N1.out bx1)
  have NB' : Hid (Below B w X1) := below_row NB.out bx1 (le_of_below NB.out (by omega))
  have R1 := TW.hide n1
  clear n1 bx1
  clear N0 N1 NB
  have N0 := N0'
  have N1 := N1'
  have NB := NB'
  clear N0' N1' NB'
  generalize w1.heap.size = g1 at *
  refine HK.out _ _ ?_
  clear HK KK
  refine wp_seq_k fun KK hK => ?_
  have HK := TW.hide hK
  clear hK
  go_wp2_with (first | (refine wpList_load_row (by rfl) 31 _ (by rfl) (B) (by rfl) 31 (K .u64 vs) (0, 0) _ N0.out Tryd.underlying31 rfl IV.out ?_) | (refine wpList_load_row (by rfl) 31 _ (by rfl) (B + 1) (by rfl) 31 (K .u64 ms) (0, 0) _ N1.out Tryd.underlying31 rfl IM.out ?_))
  refine (H24.out _).mono ?_
  rintro e w2 ⟨rfl, hb2⟩
  have N0' := TW.hide (blk_keep N0.out hb2)
  have N1' := TW.hide (blk_keep N1.out hb2)
  have R1' := TW.hide (blk_keep R1.out hb2)
  have NB' : Hid (Below B w w2) := below_row NB.out hb2 (le_of_below NB.out (by omega))
  clear hb2
  clear N0 N1 R1 NB
  have N0 := N0'
  have N1 := N1'
  have R1 := R1'
  have NB := NB'
  clear N0' N1' R1' NB'
  go_wp2_with (first | (refine wpList_store_row (by rfl) 31 _ _ (by rfl) w2.heap.size (K .u64 X) (by rfl) (by rfl) 31 _ (heap_new w2 _) IX.out OX.out (K_one _ _) ?_))
  have n2 := setRow_heap _ _ _ (K .u64 X) _ _ (heap_new w2 (.cells #[.int .u64 0, .int .u64 0, .int .u64 0, .int .u64 0, .int .u64 0, .int .u64 0, .int .u64 0, .int .u64 0, .int .u64 0, .int .u64 0, .int .u64 0, .int .u64 0, .int .u64 0, .int .u64 0, .int .u64 0, .int .u64 0] 31))
  have bx2 := below_setRow (cs := (K .u64 X)) ((Below.refl w2.heap.size w2).alloc (Nat.le_refl _) (.cells #[.int .u64 0, .int .u64 0, .int .u64 0, .int .u64 0, .int .u64 0, .int .u64 0, .int .u64 0, .int .u64 0, .int .u64 0, .int .u64 0, .int .u64 0, .int .u64 0, .int .u64 0, .int .u64 0, .int .u64 0, .int .u64 0] 31)) (g := w2.heap.size) (Nat.le_refl _)
  generalize (w2.alloc (.cells #[.int .u64 0, .int .u64 0, .int .u64 0, .int .u64 0, .int .u64 0, .int .u64 0, .int .u64 0, .int .u64 0, .int .u64 0, .int .u64 0, .int .u64 0, .int .u64 0, .int .u64 0, .int .u64 0, .int .u64 0, .int .u64 0] 31)).setRow w2.heap.size (K .u64 X) = X2 at n2 bx2 ⊢
  have N0' := TW.hide (blk_keep N0.out bx2)
  have N1' := TW.hide (blk_keep N1.out bx2)
  have R1' := TW.hide (blk_keep R1.out bx2)
  have NB' : Hid (Below B w X2) := below_row NB.out bx2 (le_of_below NB.out (by omega))
  have R2 := TW.hide n2
  clear n2 bx2
  clear N0 N1 R1 NB
  have N0 := N0'
  have N1 := N1'
  have R1 := R1'
  have NB := NB'
  clear N0' N1' R1' NB'
  generalize w2.heap.size = g2 at *
  refine HK.out _ _ ?_
  clear HK KK
  refine wp_seq_k fun KK hK => ?_
  have HK := TW.hide hK
  clear hK
  go_wp2_with (first | (refine wpList_load_row (by rfl) 31 _ (by rfl) (B) (by rfl) 31 (K .u64 vs) (0, 0) _ N0.out Tryd.underlying31 rfl IV.out ?_) | (refine wpList_load_row (by rfl) 31 _ (by rfl) (B + 1) (by rfl) 31 (K .u64 ms) (0, 0) _ N1.out Tryd.underlying31 rfl IM.out ?_))
  refine (H25.out _ (TO.out.below (hB ▸ NB.out)) (TP.out.below (hB ▸ NB.out))).mono ?_
  rintro e w3 ⟨rfl, hb3⟩
  have N0' := TW.hide (blk_keep N0.out hb3)
  have N1' := TW.hide (blk_keep N1.out hb3)
  have R1' := TW.hide (blk_keep R1.out hb3)
  have R2' := TW.hide (blk_keep R2.out hb3)
  have NB' : Hid (Below B w w3) := below_row NB.out hb3 (le_of_below NB.out (by omega))
  clear hb3
  clear N0 N1 R1 R2 NB
  have N0 := N0'
  have N1 := N1'
  have R1 := R1'
  have R2 := R2'
  have NB := NB'
  clear N0' N1' R1' R2' NB'
  go_wp2_with (first | (refine wpList_store_row (by rfl) 31 _ _ (by rfl) w3.heap.size (K .u64 Z) (by rfl) (by rfl) 31 _ (heap_new w3 _) IZ.out OZ.out (K_one _ _) ?_))
  have n3 := setRow_heap _ _ _ (K .u64 Z) _ _ (heap_new w3 (.cells #[.int .u64 0, .int .u64 0, .int .u64 0, .int .u64 0, .int .u64 0, .int .u64 0, .int .u64 0, .int .u64 0, .int .u64 0, .int .u64 0, .int .u64 0, .int .u64 0, .int .u64 0, .int .u64 0, .int .u64 0, .int .u64 0] 31))
  have bx3 := below_setRow (cs := (K .u64 Z)) ((Below.refl w3.heap.size w3).alloc (Nat.le_refl _) (.cells #[.int .u64 0, .int .u64 0, .int .u64 0, .int .u64 0, .int .u64 0, .int .u64 0, .int .u64 0, .int .u64 0, .int .u64 0, .int .u64 0, .int .u64 0, .int .u64 0, .int .u64 0, .int .u64 0, .int .u64 0, .int .u64 0] 31)) (g := w3.heap.size) (Nat.le_refl _)
  generalize (w3.alloc (.cells #[.int .u64 0, .int .u64 0, .int .u64 0, .int .u64 0, .int .u64 0, .int .u64 0, .int .u64 0, .int .u64 0, .int .u64 0, .int .u64 0, .int .u64 0, .int .u64 0, .int .u64 0, .int .u64 0, .int .u64 0, .int .u64 0] 31)).setRow w3.heap.size (K .u64 Z) = X3 at n3 bx3 ⊢
  have N0' := TW.hide (blk_keep N0.out bx3)
  have N1' := TW.hide (blk_keep N1.out bx3)
  have R1' := TW.hide (blk_keep R1.out bx3)
  have R2' := TW.hide (blk_keep R2.out bx3)
  have NB' : Hid (Below B w X3) := below_row NB.out bx3 (le_of_below NB.out (by omega))
  have R3 := TW.hide n3
  clear n3 bx3
  clear N0 N1 R1 R2 NB
  have N0 := N0'
  have N1 := N1'
  have R1 := R1'
  have R2 := R2'
  have NB := NB'
  clear N0' N1' R1' R2' NB'
  generalize w3.heap.size = g3 at *
  refine HK.out _ _ ?_
  clear HK KK
  refine wp_seq_k fun KK hK => ?_
  have HK := TW.hide hK
  clear hK
  go_wp2_with (first | (refine wpList_load_row (by rfl) 31 _ (by rfl) (B) (by rfl) 31 (K .u64 vs) (0, 0) _ N0.out Tryd.underlying31 rfl IV.out ?_) | (refine wpList_load_row (by rfl) 31 _ (by rfl) (B + 1) (by rfl) 31 (K .u64 ms) (0, 0) _ N1.out Tryd.underlying31 rfl IM.out ?_))
  refine (H26.out _).mono ?_
  rintro e w4 ⟨rfl, hb4⟩
  have N0' := TW.hide (blk_keep N0.out hb4)
  have N1' := TW.hide (blk_keep N1.out hb4)
  have R1' := TW.hide (blk_keep R1.out hb4)
  have R2' := TW.hide (blk_keep R2.out hb4)
  have R3' := TW.hide (blk_keep R3.out hb4)
  have NB' : Hid (Below B w w4) := below_row NB.out hb4 (le_of_below NB.out (by omega))
  clear hb4
  clear N0 N1 R1 R2 R3 NB
  have N0 := N0'
  have N1 := N1'
  have R1 := R1'
  have R2 := R2'
  have R3 := R3'
  have NB := NB'
  clear N0' N1' R1' R2' R3' NB'
  go_wp2_with (first | (refine wpList_store_row (by rfl) 31 _ _ (by rfl) w4.heap.size (K .u64 Z) (by rfl) (by rfl) 31 _ (heap_new w4 _) IZ.out OZ.out (K_one _ _) ?_))
  have n4 := setRow_heap _ _ _ (K .u64 Z) _ _ (heap_new w4 (.cells #[.int .u64 0, .int .u64 0, .int .u64 0, .int .u64 0, .int .u64 0, .int .u64 0, .int .u64 0, .int .u64 0, .int .u64 0, .int .u64 0, .int .u64 0, .int .u64 0, .int .u64 0, .int .u64 0, .int .u64 0, .int .u64 0] 31))
  have bx4 := below_setRow (cs := (K .u64 Z)) ((Below.refl w4.heap.size w4).alloc (Nat.le_refl _) (.cells #[.int .u64 0, .int .u64 0, .int .u64 0, .int .u64 0, .int .u64 0, .int .u64 0, .int .u64 0, .int .u64 0, .int .u64 0, .int .u64 0, .int .u64 0, .int .u64 0, .int .u64 0, .int .u64 0, .int .u64 0, .int .u64 0] 31)) (g := w4.heap.size) (Nat.le_refl _)
  generalize (w4.alloc (.cells #[.int .u64 0, .int .u64 0, .int .u64 0, .int .u64 0, .int .u64 0, .int .u64 0, .int .u64 0, .int .u64 0, .int .u64 0, .int .u64 0, .int .u64 0, .int .u64 0, .int .u64 0, .int .u64 0, .int .u64 0, .int .u64 0] 31)).setRow w4.heap.size (K .u64 Z) = X4 at n4 bx4 ⊢
  have N0' := TW.hide (blk_keep N0.out bx4)
  have N1' := TW.hide (blk_keep N1.out bx4)
  have R1' := TW.hide (blk_keep R1.out bx4)
  have R2' := TW.hide (blk_keep R2.out bx4)
  have R3' := TW.hide (blk_keep R3.out bx4)
  have NB' : Hid (Below B w X4) := below_row NB.out bx4 (le_of_below NB.out (by omega))
  have R4 := TW.hide n4
  clear n4 bx4
  clear N0 N1 R1 R2 R3 NB
  have N0 := N0'
  have N1 := N1'
  have R1 := R1'
  have R2 := R2'
  have R3 := R3'
  have NB := NB'
  clear N0' N1' R1' R2' R3' NB'
  generalize w4.heap.size = g4 at *
  refine HK.out _ _ ?_
  clear HK KK
  have haw := awake X4 (TI.out.below (hB ▸ NB.out)) (TO.out.below (hB ▸ NB.out))
  have HAW := TW.hide haw
  have q1 := Q1.out
  have q2 := Q2.out
  clear haw
  go_wp2_with (first | (refine wpList_load_row (by rfl) 31 _ (by rfl) (g1) (by rfl) 31 (K .u64 X) (0, 0) _ R1.out Tryd.underlying31 rfl IX.out ?_) | (refine wpList_load_row (by rfl) 31 _ (by rfl) (g2) (by rfl) 31 (K .u64 X) (0, 0) _ R2.out Tryd.underlying31 rfl IX.out ?_) | (refine wpList_val (.agg (K .u64 Z)) (by rfl) (exec_load_row' 31 _ (by rfl) (g3) (by rfl) 31 (K .u64 Z) (0, 0) _ R3.out Tryd.underlying31 rfl IZ.out) ?_) | (refine wpList_val (.agg (K .u64 Z)) (by rfl) (exec_load_row' 31 _ (by rfl) (g4) (by rfl) 31 (K .u64 Z) (0, 0) _ R4.out Tryd.underlying31 rfl IZ.out) ?_) | (go_at_call 20; refine HAW.out.mono ?_; rintro e w' ⟨rfl, hb⟩))
  have hsz := NB.out.size
  go_ret
  exact ⟨rfl, below_row NB.out hb (by omega)⟩
theorem roundsWalk (vs ms : List Int) (n : Int) (w : World) (ti : Tab w 0 .u64 ivL) (to : Tab w 1 .u8 ordL) (tp : Tab w 2 .u8 plL) (hv : vs.length = 16) (hV : Ws vs) (hm : ms.length = 16) (hM : Ws ms) :
    Calls Tryd.prog 6 #[.agg (K .u64 vs), .agg (K .u64 ms), .int .i64 n] w fun e w' => e = .returned (.bool true) ∧ Below w.heap.size w w' := by
  by_cases h : 0 ≤ n ∧ n < 12
  · obtain ⟨k, rfl⟩ := Int.eq_ofNat_of_zero_le h.1
    have hk : k < 12 := by omega
    exact roundsGen vs ms (forthL vs ms k) (backL vs ms k) 0 0 k w ti to tp hv hm (by rw [forthL_length, hv]) (by rw [backL_length, hv])
      (fun W h1 h2 => roundOk vs ms k W hv hm hV hM hk h1 h2) (fun W => rroundOk vs ms k W hv hm hV hM hk)
      (fun W h1 h2 => backrOk vs ms k W hv hm hV hM hk h1 h2) (fun W => rbackOk vs ms k W hv hm hV hM hk)
  · exact roundsGen vs ms (List.replicate 16 0) (List.replicate 16 0) 1 1 n w ti to tp hv hm rfl rfl
      (fun W _ _ => roundNo vs ms n W hv hm (by omega)) (fun W => rroundNo vs ms n W (by omega))
      (fun W _ _ => backrNo vs ms n W hv hm (by omega)) (fun W => rbackNo vs ms n W (by omega))
end MX
end Go.Proofs.YtkilackhomhpgaaDoor
