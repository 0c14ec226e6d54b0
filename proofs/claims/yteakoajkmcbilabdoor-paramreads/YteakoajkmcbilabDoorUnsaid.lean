/-
  What the calls nameOf and unsaid give.
-/
import Derived.Test.YteakoajkmcbilabDoorShowL
import Derived.Test.YteakoajkmcbilabDoorWStr
namespace Go.Proofs.YteakoajkmcbilabDoor
open Go.RowKit
set_option linter.unusedVariables false
set_option linter.unusedSimpArgs false
namespace LW
open Words
theorem nameOf (kd : Int) (w : World) : Calls Tryd.prog 19 #[.int .i64 kd] w fun e w' => e = .returned (.string (strOfNums (knL kd))) ∧ w = w' := by
  by_cases h : kd = 2
  · subst h
    go_enter Tryd.func19, Tryd.ntmps19
    go_wp2
    go_ret
    exact ⟨rfl, rfl⟩
  · have h2 : (kd == 2) = false := by simpa using h
    have e : knL kd = [50, 98] := by simp [knL, h]
    rw [e]
    clear h e
    go_enter Tryd.func19, Tryd.ntmps19
    go_wp2
    go_ret
    exact ⟨rfl, rfl⟩
set_option maxRecDepth 100000 in
set_option maxHeartbeats 2000000 in
theorem unsaid (kd : Int) (hk : kd = 1 ∨ kd = 2) (w : World) :
    Calls Tryd.prog 20 #[.int .i64 kd] w fun e w' => e = .returned (.agg (pcP (usP kd) (.slice none 0 0) (.slice none 0 0))) ∧ Below w.heap.size w w' := by
  have hm := fun W => most kd W
  have hp : ∀ W : World, Calls Tryd.prog 57 #[.int .i64 kd, .int .i64 (mo kd), .int .i64 0] W fun e w' => e = .returned (.tuple #[.agg (pcP (usP kd) (.slice none 0 0) (.slice none 0 0)), .int .i64 0]) ∧ Below W.heap.size W w' := fun W => by
    have h := plain kd (mo kd) 0 W 0 (TW.hide fun W => by have h := checkP kd (usP kd) (usP_ok kd) none none 0 0 0 0 W; rw [usP_ck kd hk] at h; exact h)
    rw [if_pos rfl] at h
    exact h
  have HM := TW.hide hm
  have HP := TW.hide hp
  clear hm hp
  have n0 := heap_new w (.cells #[.int .i64 0, .int .i64 0, .int .i64 0, .int .i64 0, .int .u32 0, .int .u64 0, .int .u32 0, .int .i64 0, .int .i64 0, .slice none 0 0, .slice none 0 0] 26)
  have b0 := (Below.refl w.heap.size w).alloc (Nat.le_refl _) (.cells #[.int .i64 0, .int .i64 0, .int .i64 0, .int .i64 0, .int .u32 0, .int .u64 0, .int .u32 0, .int .i64 0, .int .i64 0, .slice none 0 0, .slice none 0 0] 26)
  generalize mo kd = m at HM HP
  go_enter Tryd.func20, Tryd.ntmps20
  refine wp_seq_k fun KK hK => ?_
  have HK := TW.hide hK
  clear hK
  go_wp2
  refine HK.out _ _ ?_
  clear HK KK
  generalize w.alloc (.cells #[.int .i64 0, .int .i64 0, .int .i64 0, .int .i64 0, .int .u32 0, .int .u64 0, .int .u32 0, .int .i64 0, .int .i64 0, .slice none 0 0, .slice none 0 0] 26) = W at n0 b0 ⊢
  generalize hB : w.heap.size = B at *
  have N0 := TW.hide n0
  have B0 := TW.hide b0
  have HBB := TW.hide hB
  clear n0 b0 hB
  refine wp_seq_k fun KK hK => ?_
  have HK := TW.hide hK
  clear hK
  go_wp2_with fail
  refine (HM.out _).mono ?_
  rintro e w1 ⟨rfl, hb⟩
  have N1 := TW.hide (blk_keep N0.out hb)
  have B1 : Hid (Below B w w1) := below_row B0.out hb (by have := blk_lt N0.out; omega)
  clear hb N0 B0
  go_wp2
  refine HK.out _ _ ?_
  clear HK KK
  refine wp_seq_k fun KK hK => ?_
  have HK := TW.hide hK
  clear hK
  go_wp2_with fail
  refine (HP.out _).mono ?_
  rintro e w2 ⟨rfl, hb⟩
  have N2 := TW.hide (blk_keep N1.out hb)
  have B2 : Hid (Below B w w2) := below_row B1.out hb (by have := blk_lt N1.out; omega)
  clear hb N1 B1
  go_wp2_with (first | (refine wpList_store_row (by rfl) 26 _ _ (by rfl) (w2.heap.size) (pcP (usP kd) (.slice none 0 0) (.slice none 0 0)) (by rfl) (by rfl) 26 _ (heap_new w2 _) (info31 _ _ _) (pc_size Pm.zero _ _ _ _ _) (pc_one _ _ _ _ _ _ _) ?_))
  have nx := setRow_heap _ _ _ (pcP (usP kd) (.slice none 0 0) (.slice none 0 0)) _ _ (heap_new w2 (.cells #[.int .i64 0, .int .i64 0, .int .i64 0, .int .i64 0, .int .u32 0, .int .u64 0, .int .u32 0, .int .i64 0, .int .i64 0, .slice none 0 0, .slice none 0 0] 26))
  have bx := below_setRow (cs := (pcP (usP kd) (.slice none 0 0) (.slice none 0 0))) ((Below.refl w2.heap.size w2).alloc (Nat.le_refl _) (.cells #[.int .i64 0, .int .i64 0, .int .i64 0, .int .i64 0, .int .u32 0, .int .u64 0, .int .u32 0, .int .i64 0, .int .i64 0, .slice none 0 0, .slice none 0 0] 26)) (g := w2.heap.size) (Nat.le_refl _)
  generalize (w2.alloc (.cells #[.int .i64 0, .int .i64 0, .int .i64 0, .int .i64 0, .int .u32 0, .int .u64 0, .int .u32 0, .int .i64 0, .int .i64 0, .slice none 0 0, .slice none 0 0] 26)).setRow w2.heap.size (pcP (usP kd) (.slice none 0 0) (.slice none 0 0)) = X2 at nx bx ⊢
  have N3 := TW.hide (blk_keep N2.out bx)
  have B3 : Hid (Below B w X2) := below_row B2.out bx (by have := blk_lt N2.out; omega)
  have NX := TW.hide nx
  clear nx bx N2 B2
  generalize w2.heap.size = g at *
  refine HK.out _ _ ?_
  clear HK KK
  go_wp2_with (first | (refine wpList_val (.agg (pcP (usP kd) (.slice none 0 0) (.slice none 0 0))) (by rfl) (exec_load_row' 26 _ (by rfl) (g) (by rfl) 26 (pcP (usP kd) (.slice none 0 0) (.slice none 0 0)) (0, 0) _ NX.out Tryd.underlying26 rfl (info31 _ _ _)) ?_) | (refine wpList_store_row (by rfl) 26 _ _ (by rfl) (B) (pcP (usP kd) (.slice none 0 0) (.slice none 0 0)) (by rfl) (by rfl) 26 _ N3.out (info31 _ _ _) (pc_size Pm.zero _ _ _ _ _) (pc_one _ _ _ _ _ _ _) ?_))
  refine bodyPost_ret (v := .agg (pcP (usP kd) (.slice none 0 0) (.slice none 0 0))) (results_cell_row (P := Tryd.prog) Tryd.results20 _ _ B 26 _ (0, 0) _ rfl (setRow_heap _ _ _ (pcP (usP kd) (.slice none 0 0) (.slice none 0 0)) _ _ N3.out) Tryd.underlying26 rfl (info31 _ _ _)) rfl ?_
  exact ⟨rfl, below_setRow B3.out (Nat.le_refl _)⟩
end LW
end Go.Proofs.YteakoajkmcbilabDoor
