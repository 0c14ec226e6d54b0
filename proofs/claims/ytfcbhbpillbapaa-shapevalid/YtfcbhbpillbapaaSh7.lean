/-
  The law on Valid.
-/
import Derived.Test.YtfcbhbpillbapaaSh6
import Derived.Test.YtfcbhbpillbapaaOrder
import Derived.Deep.MidRow
namespace Go.Proofs.Ytfcbhbpillbapaa
open Go.RowKit
set_option linter.unusedVariables false
set_option linter.unusedSimpArgs false
namespace LW
open Words
set_option maxRecDepth 100000 in
set_option maxHeartbeats 2000000 in
theorem shapeValid (T : Tr) (s t : List Int) (w : World) (_ : 0 ≤ T.lf ∧ T.lf < 4294967296) (hx1 : T.sl = s.length) (hx2 : Lies w T.sa T.sc s) (hx3 : T.pl = t.length) (hx4 : Lies w T.pa T.pc t) : Calls Try.prog 3 #[.agg (trC T)] w fun e w' => e = .returned (.bool true) ∧ Below w.heap.size w w' := by
  clear hx1 hx2 hx3 hx4
  have HV := TW.hide (fun W => valid T W)
  have HR := TW.hide (fun W => rvalid T W)
  have HA := TW.hide (fun W => awake W)
  generalize vd T = v at *
  unfold trC at *
  have n0 := heap_alloc_new w (.cells #[.int .i64 T.k, .int .i64 T.d, .int .i64 T.f, .int .i64 T.dp, .int .u32 T.lf, .int .i64 T.inn, .slice T.ka T.kl T.kc, .slice T.sa T.sl T.sc, .slice T.pa T.pl T.pc] 26)
  have hb0 := (Below.refl w.heap.size w).alloc (Nat.le_refl _) (.cells #[.int .i64 T.k, .int .i64 T.d, .int .i64 T.f, .int .i64 T.dp, .int .u32 T.lf, .int .i64 T.inn, .slice T.ka T.kl T.kc, .slice T.sa T.sl T.sc, .slice T.pa T.pl T.pc] 26)
  have HB0 := TW.hide hb0
  have HN := TW.hide n0
  clear n0 hb0
  go_enter Try.func3, Try.ntmps3
  refine wp_seq_k fun K hK => ?_
  have HK := TW.hide hK
  clear hK
  go_wp2_with fail
  refine HK.out _ _ ?_
  clear HK K
  generalize w.alloc _ = X at *
  have HT0 : Hid (Below X.heap.size X X) := Below.refl _ _
  refine wp_seq_k fun KQ hK => ?_
  have HQ := TW.hide hK
  clear hK
  refine wp_region_noPanic ?_
  refine RG.wp_region_L (fun Z => True) (fun Z => Below X.heap.size X Z) [] (by kernel_rfl) ?_
  refine RG.wpL_any fun Ya hY => ?_
  have HTa : Hid (Below X.heap.size X Ya) := by rw [hY]; exact below_drewN HT0.out 1
  clear hY
  refine RG.wpL_take (fuel := 7) (a' := ?Aa1) [0, 2] (by kernel_rfl) (by kernel_rfl) (fun _ _ _ _ _ h => h) HTa.out (fun _ => trivial) ?ra1 ?_
  case ra1 =>
    refine RG.RunsIf.weak (v := .agg #[.int .i64 T.k, .int .i64 T.d, .int .i64 T.f, .int .i64 T.dp, .int .u32 T.lf, .int .i64 T.inn, .slice T.ka T.kl T.kc, .slice T.sa T.sl T.sc, .slice T.pa T.pl T.pc]) (by rfl) (by rfl) (fun Z hT => exec_load_row' 26 _ (by rfl) (w.heap.size) (by rfl) 26 #[.int .i64 T.k, .int .i64 T.d, .int .i64 T.f, .int .i64 T.dp, .int .u32 T.lf, .int .i64 T.inn, .slice T.ka T.kl T.kc, .slice T.sa T.sl T.sc, .slice T.pa T.pl T.pc] (0, 0) _ (blk_keep HN.out hT) Try.underlying26 rfl (by kernel_rfl)) ?_
    simp only [Act.put, List.setIfInBounds_toArray, List.set_cons_zero, List.set_cons_succ, List.getElem_toArray, List.getElem_cons_zero, List.getElem_cons_succ]
    refine RG.RunsIf.weak (v := .agg #[.int .i64 T.k, .int .i64 T.d, .int .i64 T.f, .int .i64 T.dp, .int .u32 T.lf, .int .i64 T.inn, .slice T.ka T.kl T.kc, .slice T.sa T.sl T.sc, .slice T.pa T.pl T.pc]) (by rfl) (by rfl) (fun Z hT => exec_load_row' 26 _ (by rfl) (w.heap.size) (by rfl) 26 #[.int .i64 T.k, .int .i64 T.d, .int .i64 T.f, .int .i64 T.dp, .int .u32 T.lf, .int .i64 T.inn, .slice T.ka T.kl T.kc, .slice T.sa T.sl T.sc, .slice T.pa T.pl T.pc] (0, 0) _ (blk_keep HN.out hT) Try.underlying26 rfl (by kernel_rfl)) ?_
    simp only [Act.put, List.setIfInBounds_toArray, List.set_cons_zero, List.set_cons_succ, List.getElem_toArray, List.getElem_cons_zero, List.getElem_cons_succ]
    exact RG.RunsIf.nil
  refine RG.wpL_step (i := 1) (by kernel_rfl) (by rfl) (by rfl) (fun KX hK => ?_)
  have HK := TW.hide hK
  clear hK
  go_simp
  refine (HV.out _).mono ?_
  rintro e w1 ⟨rfl, hbw1⟩
  have HTa2 : Hid (Below X.heap.size X w1) := below_row HTa.out hbw1 HTa.out.size
  refine HK.out _ _ HTa2.out (fun _ => trivial) ?_
  clear HK KX HTa
  try simp only [Act.put, List.setIfInBounds_toArray, List.set_cons_zero, List.set_cons_succ, List.getElem_toArray, List.getElem_cons_zero, List.getElem_cons_succ]
  refine RG.wpL_step (i := 3) (by kernel_rfl) (by rfl) (by rfl) (fun KX hK => ?_)
  have HK := TW.hide hK
  clear hK
  go_simp
  refine (HR.out _).mono ?_
  rintro e w2 ⟨rfl, hbw2⟩
  have HTa3 : Hid (Below X.heap.size X w2) := below_row HTa2.out hbw2 HTa2.out.size
  refine HK.out _ _ HTa3.out (fun _ => trivial) ?_
  clear HK KX HTa2
  try simp only [Act.put, List.setIfInBounds_toArray, List.set_cons_zero, List.set_cons_succ, List.getElem_toArray, List.getElem_cons_zero, List.getElem_cons_succ]
  refine RG.wpL_take (fuel := 3) (a' := ?Aa4) [4, 5] (by kernel_rfl) (by kernel_rfl) (fun _ _ _ _ _ h => h) HTa3.out (fun _ => trivial) ?ra4 ?_
  case ra4 =>
    refine RG.RunsIf.weak (v := .bool true) (by rfl) (by rfl) (fun Z hT => ?_) ?_
    · go_simp
    simp only [Act.put, List.setIfInBounds_toArray, List.set_cons_zero, List.set_cons_succ, List.getElem_toArray, List.getElem_cons_zero, List.getElem_cons_succ]
    refine RG.RunsIf.weak (v := ?_) (by rfl) (by rfl) (fun Z hT => ?_) ?_
    rotate_left
    · go_simp
      rfl
    simp only [Act.put, List.setIfInBounds_toArray, List.set_cons_zero, List.set_cons_succ, List.getElem_toArray, List.getElem_cons_zero, List.getElem_cons_succ]
    exact RG.RunsIf.nil
  refine RG.wpL_stepw (i := 6) (by kernel_rfl) (by rfl) (by rfl) (fun KX hK => ?_)
  have HK := TW.hide hK
  clear hK
  go_simp
  refine (HA.out _).mono ?_
  rintro e w3 ⟨rfl, hbw3⟩
  have HTa5 : Hid (Below X.heap.size X w3) := below_row HTa3.out hbw3 HTa3.out.size
  refine HK.out _ _ HTa5.out (fun _ => trivial) ?_
  clear HK KX HTa3
  try simp only [Act.put, List.setIfInBounds_toArray, List.set_cons_zero, List.set_cons_succ, List.getElem_toArray, List.getElem_cons_zero, List.getElem_cons_succ]
  refine RG.wpL_take (fuel := 0) (a' := ?Aa6) [7, 8] (by kernel_rfl) (by kernel_rfl) (fun _ _ _ _ _ h => h) HTa5.out (fun _ => trivial) ?ra6 ?_
  case ra6 =>
    refine RG.RunsIf.weak (v := ?_) (by rfl) (by rfl) (fun Z hT => ?_) ?_
    rotate_left
    · go_simp
      rfl
    simp only [Act.put, List.setIfInBounds_toArray, List.set_cons_zero, List.set_cons_succ, List.getElem_toArray, List.getElem_cons_zero, List.getElem_cons_succ]
    refine RG.RunsIf.weak (v := ?_) (by rfl) (by rfl) (fun Z hT => ?_) ?_
    rotate_left
    · go_simp
      rfl
    simp only [Act.put, List.setIfInBounds_toArray, List.set_cons_zero, List.set_cons_succ, List.getElem_toArray, List.getElem_cons_zero, List.getElem_cons_succ]
    exact RG.RunsIf.nil
  refine RG.wpL_done (by kernel_rfl) ?_ _
  refine NoPanic.normal ?_
  refine HQ.out _ _ ?_
  clear HQ KQ
  go_wp2
  go_ret
  exact ⟨rfl, HB0.out.trans (HTa5.out.mono HB0.out.size)⟩
end LW
end Go.Proofs.Ytfcbhbpillbapaa
