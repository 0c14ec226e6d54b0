/-
  What the calls Round and Back give, for every number of a round.
-/
import Derived.Test.YtecepllidmkmhabDoorRinfo
import Derived.Test.YtecepllidmkmhabDoorBackw
namespace Go.Proofs.YtecepllidmkmhabDoor
open Go.RowKit
set_option linter.unusedVariables false
set_option linter.unusedSimpArgs false
namespace MX
open Turn
attribute [local go_sem ↓] Go.wp_at_zero Go.wp_at_succ
set_option maxRecDepth 100000 in
set_option maxHeartbeats 1000000 in
theorem roundOk (vs ms : List Int) (n : Nat) (w : World) (hv : vs.length = 16) (hm : ms.length = 16) (hV : Ws vs) (hM : Ws ms) (hn : n < 10) (ht : Tab w 1 .u8 ordL) :
    Calls Tryd.prog 13 #[.agg (K .u32 vs), .agg (K .u32 ms), .int .i64 n] w fun e w' => e = .returned (.tuple #[.agg (K .u32 (forthL vs ms n)), .int .i64 0]) ∧ Below w.heap.size w w' := by
  have hr := fun W => isRound (n : Int) W
  rw [show (decide ((0 : Int) ≤ n) && decide ((n : Int) < 10)) = true by simp; omega] at hr
  have hb := ((((Below.refl w.heap.size w).alloc (Nat.le_refl _) (.cells (K .u32 vs) 34)).alloc (by simp; try omega) (.cells (K .u32 ms) 34)).alloc (by simp; try omega) (.cells (K .u32 (List.replicate 16 0)) 34))
  have n0 := (blk_alloc (o' := .cells (K .u32 (List.replicate 16 0)) 34) (blk_alloc (o' := .cells (K .u32 ms) 34) (heap_new w (.cells (K .u32 vs) 34))))
  have n1 := (blk_alloc (o' := .cells (K .u32 (List.replicate 16 0)) 34) (heap_new (w.alloc (.cells (K .u32 vs) 34)) (.cells (K .u32 ms) 34)))
  rw [show (w.alloc (.cells (K .u32 vs) 34)).heap.size = w.heap.size + 1 by simp] at n1
  have n2 := (heap_new ((w.alloc (.cells (K .u32 vs) 34)).alloc (.cells (K .u32 ms) 34)) (.cells (K .u32 (List.replicate 16 0)) 34))
  rw [show ((w.alloc (.cells (K .u32 vs) 34)).alloc (.cells (K .u32 ms) 34)).heap.size = w.heap.size + 1 + 1 by simp] at n2
  have HR := TW.hide hr
  clear hr
  go_enter Tryd.func13, Tryd.ntmps13
  refine wp_seq_k fun K hK => ?_
  have HK := TW.hide hK
  clear hK
  go_wp2
  refine HK.out _ _ ?_
  clear HK K
  change Code.wp _ _ _ _ (((w.alloc (.cells (K .u32 vs) 34)).alloc (.cells (K .u32 ms) 34)).alloc (.cells (K .u32 (List.replicate 16 0)) 34))
  generalize hWW : ((w.alloc (.cells (K .u32 vs) 34)).alloc (.cells (K .u32 ms) 34)).alloc (.cells (K .u32 (List.replicate 16 0)) 34) = W at hb n0 n1 n2 ⊢
  have hW : W.heap.size = w.heap.size + 1 + 1 + 1 := by rw [← hWW]; simp
  clear hWW
  have hf := forth vs ms n W hv hm hV hM hn (ht.below hb)
  have hl := forthL_length vs ms n
  rw [hv] at hl
  generalize hU : forthL vs ms n = us at *
  have HU := TW.hide hU
  have iv := info16 vs hv
  have im := info16 ms hm
  have iu := info16 us hl
  have ou := size16 (List.replicate 16 0) us rfl hl
  generalize hB : w.heap.size = B at *
  have HF := TW.hide hf
  have IV := TW.hide iv
  have IM := TW.hide im
  have IU := TW.hide iu
  have OU := TW.hide ou
  have N0 := TW.hide n0
  have N1 := TW.hide n1
  have N2 := TW.hide n2
  have HB := TW.hide hb
  clear hf iv im iu ou n0 n1 n2 hb
  clear hU ht
  go_wp2_with (first | (go_at_call 27; refine (HR.out _).mono ?_; rintro e w' ⟨rfl, rfl⟩) | (refine wpList_load_row (by rfl) 34 _ (by rfl) (B) (by rfl) 34 (K .u32 vs) (0, 0) _ N0.out Tryd.underlying34 rfl IV.out ?_) | (refine wpList_load_row (by rfl) 34 _ (by rfl) (B + 1) (by rfl) 34 (K .u32 ms) (0, 0) _ N1.out Tryd.underlying34 rfl IM.out ?_))
  refine HF.out.mono ?_
  rintro e w2 ⟨rfl, hb2⟩
  have M2 := TW.hide (blk_keep N2.out hb2)
  have MB : Hid (Below B w w2) := below_row HB.out hb2 (by omega)
  clear hb2
  go_wp2_with (refine wpList_store_row (by rfl) 34 _ _ (by rfl) (B + 1 + 1) (K .u32 us) (by rfl) (by rfl) 34 _ M2.out IU.out OU.out (K_one _ _) ?_)
  have e := HU.out
  subst e
  refine bodyPost_ret (v := .tuple #[.agg (K .u32 (forthL vs ms n)), .int .i64 0]) (results_row_tmp (P := Tryd.prog) Tryd.results13 _ _ (B + 1 + 1) 34 _ (0, 0) _ _ (by rfl) (by rfl) (setRow_heap _ _ _ _ _ _ M2.out) Tryd.underlying34 rfl IU.out) rfl ?_
  exact ⟨rfl, below_setRow MB.out (by omega)⟩
set_option maxRecDepth 100000 in
set_option maxHeartbeats 1000000 in
theorem roundNo (vs ms : List Int) (n : Int) (w : World) (hv : vs.length = 16) (hm : ms.length = 16) (hn : n < 0 ∨ 10 ≤ n) :
    Calls Tryd.prog 13 #[.agg (K .u32 vs), .agg (K .u32 ms), .int .i64 n] w fun e w' => e = .returned (.tuple #[.agg (K .u32 (List.replicate 16 0)), .int .i64 1]) ∧ Below w.heap.size w w' := by
  have hr := fun W => isRound n W
  rw [show (decide ((0 : Int) ≤ n) && decide (n < 10)) = false by simp; omega] at hr
  have hb := ((((Below.refl w.heap.size w).alloc (Nat.le_refl _) (.cells (K .u32 vs) 34)).alloc (by simp; try omega) (.cells (K .u32 ms) 34)).alloc (by simp; try omega) (.cells (K .u32 (List.replicate 16 0)) 34))
  have n0 := (blk_alloc (o' := .cells (K .u32 (List.replicate 16 0)) 34) (blk_alloc (o' := .cells (K .u32 ms) 34) (heap_new w (.cells (K .u32 vs) 34))))
  have n1 := (blk_alloc (o' := .cells (K .u32 (List.replicate 16 0)) 34) (heap_new (w.alloc (.cells (K .u32 vs) 34)) (.cells (K .u32 ms) 34)))
  rw [show (w.alloc (.cells (K .u32 vs) 34)).heap.size = w.heap.size + 1 by simp] at n1
  have n2 := (heap_new ((w.alloc (.cells (K .u32 vs) 34)).alloc (.cells (K .u32 ms) 34)) (.cells (K .u32 (List.replicate 16 0)) 34))
  rw [show ((w.alloc (.cells (K .u32 vs) 34)).alloc (.cells (K .u32 ms) 34)).heap.size = w.heap.size + 1 + 1 by simp] at n2
  have HR := TW.hide hr
  clear hr
  go_enter Tryd.func13, Tryd.ntmps13
  refine wp_seq_k fun K hK => ?_
  have HK := TW.hide hK
  clear hK
  go_wp2
  refine HK.out _ _ ?_
  clear HK K
  change Code.wp _ _ _ _ (((w.alloc (.cells (K .u32 vs) 34)).alloc (.cells (K .u32 ms) 34)).alloc (.cells (K .u32 (List.replicate 16 0)) 34))
  generalize hWW : ((w.alloc (.cells (K .u32 vs) 34)).alloc (.cells (K .u32 ms) 34)).alloc (.cells (K .u32 (List.replicate 16 0)) 34) = W at hb n0 n1 n2 ⊢
  have hW : W.heap.size = w.heap.size + 1 + 1 + 1 := by rw [← hWW]; simp
  clear hWW
  generalize hB : w.heap.size = B at *
  have iu := info16 (List.replicate 16 0) rfl
  have IU := TW.hide iu
  have N2 := TW.hide n2
  have HB := TW.hide hb
  clear iu n2 hb
  clear n0 n1
  go_wp2_with (first | (go_at_call 27; refine (HR.out _).mono ?_; rintro e w' ⟨rfl, rfl⟩) | (refine wpList_store_row (by rfl) 34 _ _ (by rfl) (B + 1 + 1) (K .u32 (List.replicate 16 0)) (by rfl) (by rfl) 34 _ N2.out IU.out rfl (K_one _ _) ?_))
  refine bodyPost_ret (v := .tuple #[.agg (K .u32 (List.replicate 16 0)), .int .i64 1]) (results_row_tmp (P := Tryd.prog) Tryd.results13 _ _ (B + 1 + 1) 34 _ (0, 0) _ _ (by rfl) (by rfl) (setRow_heap _ _ _ _ _ _ N2.out) Tryd.underlying34 rfl IU.out) rfl ?_
  exact ⟨rfl, below_setRow HB.out (by omega)⟩
set_option maxRecDepth 100000 in
set_option maxHeartbeats 1000000 in
theorem backrOk (vs ms : List Int) (n : Nat) (w : World) (hv : vs.length = 16) (hm : ms.length = 16) (hV : Ws vs) (hM : Ws ms) (hn : n < 10) (ht : Tab w 1 .u8 ordL) :
    Calls Tryd.prog 14 #[.agg (K .u32 vs), .agg (K .u32 ms), .int .i64 n] w fun e w' => e = .returned (.tuple #[.agg (K .u32 (backL vs ms n)), .int .i64 0]) ∧ Below w.heap.size w w' := by
  have hr := fun W => isRound (n : Int) W
  rw [show (decide ((0 : Int) ≤ n) && decide ((n : Int) < 10)) = true by simp; omega] at hr
  have hb := ((((Below.refl w.heap.size w).alloc (Nat.le_refl _) (.cells (K .u32 vs) 34)).alloc (by simp; try omega) (.cells (K .u32 ms) 34)).alloc (by simp; try omega) (.cells (K .u32 (List.replicate 16 0)) 34))
  have n0 := (blk_alloc (o' := .cells (K .u32 (List.replicate 16 0)) 34) (blk_alloc (o' := .cells (K .u32 ms) 34) (heap_new w (.cells (K .u32 vs) 34))))
  have n1 := (blk_alloc (o' := .cells (K .u32 (List.replicate 16 0)) 34) (heap_new (w.alloc (.cells (K .u32 vs) 34)) (.cells (K .u32 ms) 34)))
  rw [show (w.alloc (.cells (K .u32 vs) 34)).heap.size = w.heap.size + 1 by simp] at n1
  have n2 := (heap_new ((w.alloc (.cells (K .u32 vs) 34)).alloc (.cells (K .u32 ms) 34)) (.cells (K .u32 (List.replicate 16 0)) 34))
  rw [show ((w.alloc (.cells (K .u32 vs) 34)).alloc (.cells (K .u32 ms) 34)).heap.size = w.heap.size + 1 + 1 by simp] at n2
  have HR := TW.hide hr
  clear hr
  go_enter Tryd.func14, Tryd.ntmps14
  refine wp_seq_k fun K hK => ?_
  have HK := TW.hide hK
  clear hK
  go_wp2
  refine HK.out _ _ ?_
  clear HK K
  change Code.wp _ _ _ _ (((w.alloc (.cells (K .u32 vs) 34)).alloc (.cells (K .u32 ms) 34)).alloc (.cells (K .u32 (List.replicate 16 0)) 34))
  generalize hWW : ((w.alloc (.cells (K .u32 vs) 34)).alloc (.cells (K .u32 ms) 34)).alloc (.cells (K .u32 (List.replicate 16 0)) 34) = W at hb n0 n1 n2 ⊢
  have hW : W.heap.size = w.heap.size + 1 + 1 + 1 := by rw [← hWW]; simp
  clear hWW
  have hf := back vs ms n W hv hm hV hM hn (ht.below hb)
  have hl := backL_length vs ms n
  rw [hv] at hl
  generalize hU : backL vs ms n = us at *
  have HU := TW.hide hU
  have iv := info16 vs hv
  have im := info16 ms hm
  have iu := info16 us hl
  have ou := size16 (List.replicate 16 0) us rfl hl
  generalize hB : w.heap.size = B at *
  have HF := TW.hide hf
  have IV := TW.hide iv
  have IM := TW.hide im
  have IU := TW.hide iu
  have OU := TW.hide ou
  have N0 := TW.hide n0
  have N1 := TW.hide n1
  have N2 := TW.hide n2
  have HB := TW.hide hb
  clear hf iv im iu ou n0 n1 n2 hb
  clear hU ht
  go_wp2_with (first | (go_at_call 27; refine (HR.out _).mono ?_; rintro e w' ⟨rfl, rfl⟩) | (refine wpList_load_row (by rfl) 34 _ (by rfl) (B) (by rfl) 34 (K .u32 vs) (0, 0) _ N0.out Tryd.underlying34 rfl IV.out ?_) | (refine wpList_load_row (by rfl) 34 _ (by rfl) (B + 1) (by rfl) 34 (K .u32 ms) (0, 0) _ N1.out Tryd.underlying34 rfl IM.out ?_))
  refine HF.out.mono ?_
  rintro e w2 ⟨rfl, hb2⟩
  have M2 := TW.hide (blk_keep N2.out hb2)
  have MB : Hid (Below B w w2) := below_row HB.out hb2 (by omega)
  clear hb2
  go_wp2_with (refine wpList_store_row (by rfl) 34 _ _ (by rfl) (B + 1 + 1) (K .u32 us) (by rfl) (by rfl) 34 _ M2.out IU.out OU.out (K_one _ _) ?_)
  have e := HU.out
  subst e
  refine bodyPost_ret (v := .tuple #[.agg (K .u32 (backL vs ms n)), .int .i64 0]) (results_row_tmp (P := Tryd.prog) Tryd.results14 _ _ (B + 1 + 1) 34 _ (0, 0) _ _ (by rfl) (by rfl) (setRow_heap _ _ _ _ _ _ M2.out) Tryd.underlying34 rfl IU.out) rfl ?_
  exact ⟨rfl, below_setRow MB.out (by omega)⟩
set_option maxRecDepth 100000 in
set_option maxHeartbeats 1000000 in
theorem backrNo (vs ms : List Int) (n : Int) (w : World) (hv : vs.length = 16) (hm : ms.length = 16) (hn : n < 0 ∨ 10 ≤ n) :
    Calls Tryd.prog 14 #[.agg (K .u32 vs), .agg (K .u32 ms), .int .i64 n] w fun e w' => e = .returned (.tuple #[.agg (K .u32 (List.replicate 16 0)), .int .i64 1]) ∧ Below w.heap.size w w' := by
  have hr := fun W => isRound n W
  rw [show (decide ((0 : Int) ≤ n) && decide (n < 10)) = false by simp; omega] at hr
  have hb := ((((Below.refl w.heap.size w).alloc (Nat.le_refl _) (.cells (K .u32 vs) 34)).alloc (by simp; try omega) (.cells (K .u32 ms) 34)).alloc (by simp; try omega) (.cells (K .u32 (List.replicate 16 0)) 34))
  have n0 := (blk_alloc (o' := .cells (K .u32 (List.replicate 16 0)) 34) (blk_alloc (o' := .cells (K .u32 ms) 34) (heap_new w (.cells (K .u32 vs) 34))))
  have n1 := (blk_alloc (o' := .cells (K .u32 (List.replicate 16 0)) 34) (heap_new (w.alloc (.cells (K .u32 vs) 34)) (.cells (K .u32 ms) 34)))
  rw [show (w.alloc (.cells (K .u32 vs) 34)).heap.size = w.heap.size + 1 by simp] at n1
  have n2 := (heap_new ((w.alloc (.cells (K .u32 vs) 34)).alloc (.cells (K .u32 ms) 34)) (.cells (K .u32 (List.replicate 16 0)) 34))
  rw [show ((w.alloc (.cells (K .u32 vs) 34)).alloc (.cells (K .u32 ms) 34)).heap.size = w.heap.size + 1 + 1 by simp] at n2
  have HR := TW.hide hr
  clear hr
  go_enter Tryd.func14, Tryd.ntmps14
  refine wp_seq_k fun K hK => ?_
  have HK := TW.hide hK
  clear hK
  go_wp2
  refine HK.out _ _ ?_
  clear HK K
  change Code.wp _ _ _ _ (((w.alloc (.cells (K .u32 vs) 34)).alloc (.cells (K .u32 ms) 34)).alloc (.cells (K .u32 (List.replicate 16 0)) 34))
  generalize hWW : ((w.alloc (.cells (K .u32 vs) 34)).alloc (.cells (K .u32 ms) 34)).alloc (.cells (K .u32 (List.replicate 16 0)) 34) = W at hb n0 n1 n2 ⊢
  have hW : W.heap.size = w.heap.size + 1 + 1 + 1 := by rw [← hWW]; simp
  clear hWW
  generalize hB : w.heap.size = B at *
  have iu := info16 (List.replicate 16 0) rfl
  have IU := TW.hide iu
  have N2 := TW.hide n2
  have HB := TW.hide hb
  clear iu n2 hb
  clear n0 n1
  go_wp2_with (first | (go_at_call 27; refine (HR.out _).mono ?_; rintro e w' ⟨rfl, rfl⟩) | (refine wpList_store_row (by rfl) 34 _ _ (by rfl) (B + 1 + 1) (K .u32 (List.replicate 16 0)) (by rfl) (by rfl) 34 _ N2.out IU.out rfl (K_one _ _) ?_))
  refine bodyPost_ret (v := .tuple #[.agg (K .u32 (List.replicate 16 0)), .int .i64 1]) (results_row_tmp (P := Tryd.prog) Tryd.results14 _ _ (B + 1 + 1) 34 _ (0, 0) _ _ (by rfl) (by rfl) (setRow_heap _ _ _ _ _ _ N2.out) Tryd.underlying34 rfl IU.out) rfl ?_
  exact ⟨rfl, below_setRow HB.out (by omega)⟩
end MX
end Go.Proofs.YtecepllidmkmhabDoor
