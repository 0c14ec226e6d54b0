/-
  What the law MixbSteps does: every step G of the program answers as the document's.
-/
import Derived.Test.YtkilackhomhpgaaDoorRoundsLaw
namespace Go.Proofs.YtkilackhomhpgaaDoor
open Go.RowKit
set_option linter.unusedVariables false
set_option linter.unusedSimpArgs false
namespace MX
open Turn
attribute [local go_sem ↓] Go.wp_at_zero Go.wp_at_succ
/-- The cells of a Step. -/
def stepC (vs : List Int) (a b c d x y : Int) : Array Value := (vs.map (Value.int .u64) ++ [Value.int .i64 a, Value.int .i64 b, Value.int .i64 c, Value.int .i64 d, Value.int .u64 x, Value.int .u64 y]).toArray
theorem step_cell (vs : List Int) (a b c d x y : Int) (hv : vs.length = 16) (Z : World) (B : Nat) (h : Z.heap[B]? = some (.cells (stepC vs a b c d x y) 46 (0, 0))) :
    Z.rangeAt B 0 (vs.map (Value.int .u64)) ∧ Z.cell? ⟨B, 16, none⟩ = some (.int .i64 a) ∧ Z.cell? ⟨B, 17, none⟩ = some (.int .i64 b) ∧ Z.cell? ⟨B, 18, none⟩ = some (.int .i64 c) ∧ Z.cell? ⟨B, 19, none⟩ = some (.int .i64 d) ∧ Z.cell? ⟨B, 20, none⟩ = some (.int .u64 x) ∧ Z.cell? ⟨B, 21, none⟩ = some (.int .u64 y) := by
  have hl : (vs.map (Value.int .u64)).length = 16 := by rw [List.length_map, hv]
  refine ⟨fun j v hj => ?_, ?_, ?_, ?_, ?_, ?_, ?_⟩
  · rw [Nat.zero_add]
    refine blk_cell h ?_
    have hlt : j < (vs.map (Value.int .u64)).length := (List.getElem?_eq_some_iff.1 hj).1
    simp only [stepC, List.getElem?_toArray]
    rw [List.getElem?_append_left hlt]
    exact hj
  all_goals
    refine blk_cell h ?_
    simp only [stepC, List.getElem?_toArray]
    rw [List.getElem?_append_right (by omega), hl]
    rfl
set_option maxRecDepth 100000 in
set_option maxHeartbeats 4000000 in
theorem stepsGen (vs X : List Int) (a b c d x y E : Int) (w : World) (ti : Tab w 0 .u64 ivL) (to : Tab w 1 .u8 ordL) (hv : vs.length = 16) (hX : X.length = 16)
    (h21 : ∀ W, Calls Tryd.prog 21 #[.agg (K .u64 vs), .int .i64 a, .int .i64 b, .int .i64 c, .int .i64 d, .int .u64 x, .int .u64 y] W fun e w' => e = .returned (.tuple #[.agg (K .u64 X), .int .i64 E]) ∧ Below W.heap.size W w')
    (h22 : ∀ W, Calls Tryd.prog 22 #[.agg (K .u64 vs), .int .i64 a, .int .i64 b, .int .i64 c, .int .i64 d, .int .u64 x, .int .u64 y] W fun e w' => e = .returned (.tuple #[.agg (K .u64 X), .int .i64 E]) ∧ Below W.heap.size W w') :
    Calls Tryd.prog 5 #[.agg (stepC vs a b c d x y)] w fun e w' => e = .returned (.bool true) ∧ Below w.heap.size w w' := by
  have iv : (Tryd.prog.info? 31).map (·.size) = some (vs.map (Value.int .u64)).length := by rw [List.length_map, hv]; kernel_rfl
  have iX := info31 X hX
  have oX := size16 (List.replicate 16 0) X rfl hX
  have q1 := fun W => eq16 W X X hX hX
  simp only [decide_true] at q1
  have hsc := fun Z B => step_cell vs a b c d x y hv Z B
  have TI := TW.hide ti
  have TO := TW.hide to
  have H21 := TW.hide h21
  have H22 := TW.hide h22
  have IV := TW.hide iv
  have IX := TW.hide iX
  have OX := TW.hide oX
  have Q1 := TW.hide q1
  have HSC := TW.hide hsc
  clear ti to h21 h22 iv iX oX q1 hsc
  have hb := ((Below.refl w.heap.size w).alloc (Nat.le_refl _) (.cells (stepC vs a b c d x y) 46))
  have n0 := (heap_new w (.cells (stepC vs a b c d x y) 46))
  go_enter Tryd.func5, Tryd.ntmps5
  refine wp_seq_k fun K hK => ?_
  have HK := TW.hide hK
  clear hK
  go_wp2
  refine HK.out _ _ ?_
  clear HK K
  change Code.wp _ _ _ _ (w.alloc (.cells (stepC vs a b c d x y) 46))
  generalize hWW : w.alloc (.cells (stepC vs a b c d x y) 46) = W at hb n0 ⊢
  have hW : W.heap.size = w.heap.size + 1 := by rw [← hWW]; simp
  clear hWW
  generalize hB : w.heap.size = B at *
  have N0 := TW.hide n0
  have NB := TW.hide hb
  clear n0 hb
  clear hW
  obtain ⟨hr, k0, k1, k2, k3, k4, k5⟩ := HSC.out _ _ N0.out
  have HR := TW.hide hr
  clear hr
  refine wp_seq_k fun KK hK => ?_
  have HK := TW.hide hK
  clear hK
  go_wp2_with (first | (refine wpList_load_mid (by rfl) 31 _ (by rfl) B 0 (by rfl) (vs.map (Value.int .u64)) _ HR.out Tryd.underlying31 rfl IV.out ?_))
  clear k0 k1 k2 k3 k4 k5
  refine (H21.out _).mono ?_
  rintro e w1 ⟨rfl, hb1⟩
  have N0' := TW.hide (blk_keep N0.out hb1)
  have NB' : Hid (Below B w w1) := below_row NB.out hb1 (le_of_below NB.out (by omega))
  clear hb1
  clear N0 NB
  have N0 := N0'
  have NB := NB'
  clear N0' NB'
  go_wp2_with (first | (refine wpList_store_row (by rfl) 31 _ _ (by rfl) w1.heap.size (K .u64 X) (by rfl) (by rfl) 31 _ (heap_new w1 _) IX.out OX.out (K_one _ _) ?_))
  have n1 := setRow_heap _ _ _ (K .u64 X) _ _ (heap_new w1 (.cells #[.int .u64 0, .int .u64 0, .int .u64 0, .int .u64 0, .int .u64 0, .int .u64 0, .int .u64 0, .int .u64 0, .int .u64 0, .int .u64 0, .int .u64 0, .int .u64 0, .int .u64 0, .int .u64 0, .int .u64 0, .int .u64 0] 31))
  have bx1 := below_setRow (cs := (K .u64 X)) ((Below.refl w1.heap.size w1).alloc (Nat.le_refl _) (.cells #[.int .u64 0, .int .u64 0, .int .u64 0, .int .u64 0, .int .u64 0, .int .u64 0, .int .u64 0, .int .u64 0, .int .u64 0, .int .u64 0, .int .u64 0, .int .u64 0, .int .u64 0, .int .u64 0, .int .u64 0, .int .u64 0] 31)) (g := w1.heap.size) (Nat.le_refl _)
  generalize (w1.alloc (.cells #[.int .u64 0, .int .u64 0, .int .u64 0, .int .u64 0, .int .u64 0, .int .u64 0, .int .u64 0, .int .u64 0, .int .u64 0, .int .u64 0, .int .u64 0, .int .u64 0, .int .u64 0, .int .u64 0, .int .u64 0, .int .u64 0] 31)).setRow w1.heap.size (K .u64 X) = X1 at n1 bx1 ⊢
  have N0' := TW.hide (blk_keep N0.out bx1)
  have NB' : Hid (Below B w X1) := below_row NB.out bx1 (le_of_below NB.out (by omega))
  have R1 := TW.hide n1
  clear n1 bx1
  clear N0 NB
  have N0 := N0'
  have NB := NB'
  clear N0' NB'
  generalize w1.heap.size = g1 at *
  refine HK.out _ _ ?_
  clear HK KK
  clear HR
  obtain ⟨hr, k0, k1, k2, k3, k4, k5⟩ := HSC.out _ _ N0.out
  have HR := TW.hide hr
  clear hr
  refine wp_seq_k fun KK hK => ?_
  have HK := TW.hide hK
  clear hK
  go_wp2_with (first | (refine wpList_load_mid (by rfl) 31 _ (by rfl) B 0 (by rfl) (vs.map (Value.int .u64)) _ HR.out Tryd.underlying31 rfl IV.out ?_))
  clear k0 k1 k2 k3 k4 k5
  refine (H22.out _).mono ?_
  rintro e w2 ⟨rfl, hb2⟩
  have N0' := TW.hide (blk_keep N0.out hb2)
  have R1' := TW.hide (blk_keep R1.out hb2)
  have NB' : Hid (Below B w w2) := below_row NB.out hb2 (le_of_below NB.out (by omega))
  clear hb2
  clear N0 R1 NB
  have N0 := N0'
  have R1 := R1'
  have NB := NB'
  clear N0' R1' NB'
  go_wp2_with (first | (refine wpList_store_row (by rfl) 31 _ _ (by rfl) w2.heap.size (K .u64 X) (by rfl) (by rfl) 31 _ (heap_new w2 _) IX.out OX.out (K_one _ _) ?_))
  have n2 := setRow_heap _ _ _ (K .u64 X) _ _ (heap_new w2 (.cells #[.int .u64 0, .int .u64 0, .int .u64 0, .int .u64 0, .int .u64 0, .int .u64 0, .int .u64 0, .int .u64 0, .int .u64 0, .int .u64 0, .int .u64 0, .int .u64 0, .int .u64 0, .int .u64 0, .int .u64 0, .int .u64 0] 31))
  have bx2 := below_setRow (cs := (K .u64 X)) ((Below.refl w2.heap.size w2).alloc (Nat.le_refl _) (.cells #[.int .u64 0, .int .u64 0, .int .u64 0, .int .u64 0, .int .u64 0, .int .u64 0, .int .u64 0, .int .u64 0, .int .u64 0, .int .u64 0, .int .u64 0, .int .u64 0, .int .u64 0, .int .u64 0, .int .u64 0, .int .u64 0] 31)) (g := w2.heap.size) (Nat.le_refl _)
  generalize (w2.alloc (.cells #[.int .u64 0, .int .u64 0, .int .u64 0, .int .u64 0, .int .u64 0, .int .u64 0, .int .u64 0, .int .u64 0, .int .u64 0, .int .u64 0, .int .u64 0, .int .u64 0, .int .u64 0, .int .u64 0, .int .u64 0, .int .u64 0] 31)).setRow w2.heap.size (K .u64 X) = X2 at n2 bx2 ⊢
  have N0' := TW.hide (blk_keep N0.out bx2)
  have R1' := TW.hide (blk_keep R1.out bx2)
  have NB' : Hid (Below B w X2) := below_row NB.out bx2 (le_of_below NB.out (by omega))
  have R2 := TW.hide n2
  clear n2 bx2
  clear N0 R1 NB
  have N0 := N0'
  have R1 := R1'
  have NB := NB'
  clear N0' R1' NB'
  generalize w2.heap.size = g2 at *
  refine HK.out _ _ ?_
  clear HK KK
  clear HR
  have haw := awake X2 (TI.out.below (hB ▸ NB.out)) (TO.out.below (hB ▸ NB.out))
  have HAW := TW.hide haw
  have q1 := Q1.out
  clear haw
  go_wp2_with (first | (refine wpList_load_row (by rfl) 31 _ (by rfl) (g1) (by rfl) 31 (K .u64 X) (0, 0) _ R1.out Tryd.underlying31 rfl IX.out ?_) | (refine wpList_load_row (by rfl) 31 _ (by rfl) (g2) (by rfl) 31 (K .u64 X) (0, 0) _ R2.out Tryd.underlying31 rfl IX.out ?_) | (go_at_call 20; refine HAW.out.mono ?_; rintro e w' ⟨rfl, hb⟩))
  have hsz := NB.out.size
  go_ret
  exact ⟨rfl, below_row NB.out hb (by omega)⟩
theorem four_of (a b c d : Int) (h : fpB a b c d = true) : ∃ p0 p1 p2 p3 : Nat, a = p0 ∧ b = p1 ∧ c = p2 ∧ d = p3 ∧ p0 < 16 ∧ p1 < 16 ∧ p2 < 16 ∧ p3 < 16 ∧ p0 ≠ p1 ∧ p0 ≠ p2 ∧ p0 ≠ p3 ∧ p1 ≠ p2 ∧ p1 ≠ p3 ∧ p2 ≠ p3 := by
  simp only [fpB, pB, Bool.and_eq_true, bne_iff_ne, decide_eq_true_iff] at h
  refine ⟨a.toNat, b.toNat, c.toNat, d.toNat, ?_⟩
  omega
theorem stepsWalk (vs : List Int) (a b c d x y : Int) (w : World) (ti : Tab w 0 .u64 ivL) (to : Tab w 1 .u8 ordL) (hv : vs.length = 16) (hV : Ws vs) (hx : W x) (hy : W y) :
    Calls Tryd.prog 5 #[.agg (stepC vs a b c d x y)] w fun e w' => e = .returned (.bool true) ∧ Below w.heap.size w w' := by
  cases hf : fpB a b c d with
  | true =>
    obtain ⟨p0, p1, p2, p3, rfl, rfl, rfl, rfl, b0, b1, b2, b3, d1, d2, d3, d4, d5, d6⟩ := four_of a b c d hf
    exact stepsGen vs (G4 vs p0 p1 p2 p3 x y) p0 p1 p2 p3 x y 0 w ti to hv (by rw [G4_length, hv]) (fun W => gOk vs p0 p1 p2 p3 x y W hv hV hx hy b0 b1 b2 b3 d1 d2 d3 d4 d5 d6) (fun W => rgOk vs p0 p1 p2 p3 x y W hv hV hx hy b0 b1 b2 b3 d1 d2 d3 d4 d5 d6)
  | false =>
    exact stepsGen vs (List.replicate 16 0) a b c d x y 1 w ti to hv rfl (fun W => gNo vs a b c d x y W hf) (fun W => rgNo vs a b c d x y W hf)
end MX
end Go.Proofs.YtkilackhomhpgaaDoor
