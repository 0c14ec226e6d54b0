/-
  What the calls Round and Back give, for every number of a round.
-/
import Derived.Test.YtkilackhomhpgabDoorForth
namespace Go.Proofs.YtkilackhomhpgabDoor
open Go.RowKit
set_option linter.unusedVariables false
set_option linter.unusedSimpArgs false
namespace MX
open Turn
attribute [local go_sem ↓] Go.wp_at_zero Go.wp_at_succ
theorem info31 (l : List Int) (h : l.length = 16) : (Tryd.prog.info? 24).map (·.size) = some (K .u64 l).size := by rw [K_size, h]; kernel_rfl
theorem size16 (l l' : List Int) (h : l.length = 16) (h' : l'.length = 16) : (K .u64 l).size = (K .u64 l').size := by rw [K_size, K_size, h, h']
theorem forthL_length (vs ms : List Int) (n : Nat) : (forthL vs ms n).length = vs.length := forthTo_length _ _ _ _
theorem backL_length (vs ms : List Int) (n : Nat) : (backL vs ms n).length = vs.length := backTo_length _ _ _ _
theorem forthL_Ws {vs : List Int} (ms : List Int) (n : Nat) (h : Ws vs) : Ws (forthL vs ms n) := forthTo_Ws _ _ _ h
theorem backL_Ws {vs : List Int} (ms : List Int) (n : Nat) (h : Ws vs) : Ws (backL vs ms n) := backTo_Ws _ _ _ h
set_option maxRecDepth 100000 in
set_option maxHeartbeats 1000000 in
theorem roundOk (vs ms : List Int) (n : Nat) (w : World) (hv : vs.length = 16) (hm : ms.length = 16) (hV : Ws vs) (hM : Ws ms) (hn : n < 12) (ht : Tab w 1 .u8 ordL) (hp : Tab w 2 .u8 plL) :
    Calls Tryd.prog 11 #[.agg (K .u64 vs), .agg (K .u64 ms), .int .i64 n] w fun e w' => e = .returned (.tuple #[.agg (K .u64 (forthL vs ms n)), .int .i64 0]) ∧ Below w.heap.size w w' := by
  have hr := fun W => isRound (n : Int) W
  rw [show (decide ((0 : Int) ≤ n) && decide ((n : Int) < 12)) = true by simp; omega] at hr
  have hb := ((((Below.refl w.heap.size w).alloc (Nat.le_refl _) (.cells (K .u64 vs) 24)).alloc (by simp; try omega) (.cells (K .u64 ms) 24)).alloc (by simp; try omega) (.cells (K .u64 (List.replicate 16 0)) 24))
  have n0 := (blk_alloc (o' := .cells (K .u64 (List.replicate 16 0)) 24) (blk_alloc (o' := .cells (K .u64 ms) 24) (heap_new w (.cells (K .u64 vs) 24))))
  have n1 := (blk_alloc (o' := .cells (K .u64 (List.replicate 16 0)) 24) (heap_new (w.alloc (.cells (K .u64 vs) 24)) (.cells (K .u64 ms) 24)))
  rw [show (w.alloc (.cells (K .u64 vs) 24)).heap.size = w.heap.size + 1 by simp] at n1
  have n2 := (heap_new ((w.alloc (.cells (K .u64 vs) 24)).alloc (.cells (K .u64 ms) 24)) (.cells (K .u64 (List.replicate 16 0)) 24))
  rw [show ((w.alloc (.cells (K .u64 vs) 24)).alloc (.cells (K .u64 ms) 24)).heap.size = w.heap.size + 1 + 1 by simp] at n2
  have HR := TW.hide hr
  clear hr
  go_enter Tryd.func11, Tryd.ntmps11
  refine wp_seq_k fun K hK => ?_
  have HK := TW.hide hK
  clear hK
  go_wp2
  refine HK.out _ _ ?_
  clear HK K
  change Code.wp _ _ _ _ (((w.alloc (.cells (K .u64 vs) 24)).alloc (.cells (K .u64 ms) 24)).alloc (.cells (K .u64 (List.replicate 16 0)) 24))
  generalize hWW : ((w.alloc (.cells (K .u64 vs) 24)).alloc (.cells (K .u64 ms) 24)).alloc (.cells (K .u64 (List.replicate 16 0)) 24) = W at hb n0 n1 n2 ⊢
  have hW : W.heap.size = w.heap.size + 1 + 1 + 1 := by rw [← hWW]; simp
  clear hWW
  have hf := forth vs ms n W hv hm hV hM hn (ht.below hb) (hp.below hb)
  have hl := forthL_length vs ms n
  rw [hv] at hl
  generalize hU : forthL vs ms n = us at *
  have HU := TW.hide hU
  have iv := info31 vs hv
  have im := info31 ms hm
  have iu := info31 us hl
  have ou := size16 (List.replicate 16 0) us rfl hl
  generalize hB : w.heap.size = B at *
  have HF := TW.hide hf
  have IV := TW.hide iv
  have IM := TW.hide im
  have IU := TW.hide iu
  have OU := TW.hide ou
  have N0 := TW.hide n0
  have N1 := TW.hide n1
  have N2 := TW.hide n2
  have HB := TW.hide hb
  clear hf iv im iu ou n0 n1 n2 hb
  clear hU ht hp
  go_wp2_with (first | (go_at_call 17; refine (HR.out _).mono ?_; rintro e w' ⟨rfl, rfl⟩) | (refine wpList_load_row (by rfl) 24 _ (by rfl) (B) (by rfl) 24 (K .u64 vs) (0, 0) _ N0.out Tryd.underlying24 rfl IV.out ?_) | (refine wpList_load_row (by rfl) 24 _ (by rfl) (B + 1) (by rfl) 24 (K .u64 ms) (0, 0) _ N1.out Tryd.underlying24 rfl IM.out ?_))
  refine HF.out.mono ?_
  rintro e w2 ⟨rfl, hb2⟩
  have M2 := TW.hide (blk_keep N2.out hb2)
  have MB : Hid (Below B w w2) := below_row HB.out hb2 (by omega)
  clear hb2
  go_wp2_with (refine wpList_store_row (by rfl) 24 _ _ (by rfl) (B + 1 + 1) (K .u64 us) (by rfl) (by rfl) 24 _ M2.out IU.out OU.out (K_one _ _) ?_)
  have e := HU.out
  subst e
  refine bodyPost_ret (v := .tuple #[.agg (K .u64 (forthL vs ms n)), .int .i64 0]) (results_row_tmp (P := Tryd.prog) Tryd.results11 _ _ (B + 1 + 1) 24 _ (0, 0) _ _ (by rfl) (by rfl) (setRow_heap _ _ _ _ _ _ M2.out) Tryd.underlying24 rfl IU.out) rfl ?_
  exact ⟨rfl, below_setRow MB.out (by omega)⟩
set_option maxRecDepth 100000 in
set_option maxHeartbeats 1000000 in
theorem roundNo (vs ms : List Int) (n : Int) (w : World) (hv : vs.length = 16) (hm : ms.length = 16) (hn : n < 0 ∨ 12 ≤ n) :
    Calls Tryd.prog 11 #[.agg (K .u64 vs), .agg (K .u64 ms), .int .i64 n] w fun e w' => e = .returned (.tuple #[.agg (K .u64 (List.replicate 16 0)), .int .i64 1]) ∧ Below w.heap.size w w' := by
  have hr := fun W => isRound n W
  rw [show (decide ((0 : Int) ≤ n) && decide (n < 12)) = false by simp; omega] at hr
  have hb := ((((Below.refl w.heap.size w).alloc (Nat.le_refl _) (.cells (K .u64 vs) 24)).alloc (by simp; try omega) (.cells (K .u64 ms) 24)).alloc (by simp; try omega) (.cells (K .u64 (List.replicate 16 0)) 24))
  have n0 := (blk_alloc (o' := .cells (K .u64 (List.replicate 16 0)) 24) (blk_alloc (o' := .cells (K .u64 ms) 24) (heap_new w (.cells (K .u64 vs) 24))))
  have n1 := (blk_alloc (o' := .cells (K .u64 (List.replicate 16 0)) 24) (heap_new (w.alloc (.cells (K .u64 vs) 24)) (.cells (K .u64 ms) 24)))
  rw [show (w.alloc (.cells (K .u64 vs) 24)).heap.size = w.heap.size + 1 by simp] at n1
  have n2 := (heap_new ((w.alloc (.cells (K .u64 vs) 24)).alloc (.cells (K .u64 ms) 24)) (.cells (K .u64 (List.replicate 16 0)) 24))
  rw [show ((w.alloc (.cells (K .u64 vs) 24)).alloc (.cells (K .u64 ms) 24)).heap.size = w.heap.size + 1 + 1 by simp] at n2
  have HR := TW.hide hr
  clear hr
  go_enter Tryd.func11, Tryd.ntmps11
  refine wp_seq_k fun K hK => ?_
  have HK := TW.hide hK
  clear hK
  go_wp2
  refine HK.out _ _ ?_
  clear HK K
  change Code.wp _ _ _ _ (((w.alloc (.cells (K .u64 vs) 24)).alloc (.cells (K .u64 ms) 24)).alloc (.cells (K .u64 (List.replicate 16 0)) 24))
  generalize hWW : ((w.alloc (.cells (K .u64 vs) 24)).alloc (.cells (K .u64 ms) 24)).alloc (.cells (K .u64 (List.replicate 16 0)) 24) = W at hb n0 n1 n2 ⊢
  have hW : W.heap.size = w.heap.size + 1 + 1 + 1 := by rw [← hWW]; simp
  clear hWW
  generalize hB : w.heap.size = B at *
  have iu := info31 (List.replicate 16 0) rfl
  have IU := TW.hide iu
  have N2 := TW.hide n2
  have HB := TW.hide hb
  clear iu n2 hb
  clear n0 n1
  go_wp2_with (first | (go_at_call 17; refine (HR.out _).mono ?_; rintro e w' ⟨rfl, rfl⟩) | (refine wpList_store_row (by rfl) 24 _ _ (by rfl) (B + 1 + 1) (K .u64 (List.replicate 16 0)) (by rfl) (by rfl) 24 _ N2.out IU.out rfl (K_one _ _) ?_))
  refine bodyPost_ret (v := .tuple #[.agg (K .u64 (List.replicate 16 0)), .int .i64 1]) (results_row_tmp (P := Tryd.prog) Tryd.results11 _ _ (B + 1 + 1) 24 _ (0, 0) _ _ (by rfl) (by rfl) (setRow_heap _ _ _ _ _ _ N2.out) Tryd.underlying24 rfl IU.out) rfl ?_
  exact ⟨rfl, below_setRow HB.out (by omega)⟩
end MX
end Go.Proofs.YtkilackhomhpgabDoor
