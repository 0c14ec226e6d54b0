/-
 The notes of a trace begin.
-/
import Derived.Test.YthgmmggpclmagaaPgJ
import Derived.Test.YthgmmggpclmagaaTvAg
import Derived.Test.YthgmmggpclmagaaOrd3
import Derived.Test.YthgmmggpclmagaaPair
import Derived.Test.YthgmmggpclmagaaArgs13
namespace Go.Proofs.Ythgmmggpclmagaa
open List renaming setIfInBounds_toArray → lpA, set_cons_zero → lpZ, set_cons_succ → lpS, getElem_toArray → lgT, getElem_cons_zero → lgZ, getElem_cons_succ → lgS
open Go.RowKit
set_option linter.unusedVariables false
set_option linter.unusedSimpArgs false
namespace LW
open Mc
theorem wp_makeMap {P : Program} (w : World) {o : Oper} {a : Act} {K : Act → World → Prop} {Q : Exit → Act → World → Prop} (t : TypeId) (hop : o.op = Op.makeMap t none) (hK : K (a.put o.dst (.map (some w.heap.size))) (w.alloc (.map #[] 0))) : o.wp P a w K Q := by
 unfold Oper.wp
 simp [execOp, hop, run_makeMap, Result.andThen]
 exact hK
theorem rep_rw (n : Nat) (f : Nat → Value) (v : Value) (h : ∀ c, f c = v) : List.replicate n v = rwI n f := by
 unfold rwI
 rw [show f = fun _ => v from funext h, List.map_const', List.length_range]
/-- What begin leaves. -/
def BegQ (w : World) (pa : Option Addr) (n pc : Nat) (ra : Option Addr) (r rc : Nat) (gr lk ce : Int) : Ending → World → Prop := fun e w' => ∃ bI bC bm, e = .returned (.agg #[.slice pa n pc, .slice ra r rc, .int .i64 gr, .int .i64 lk, .int .i64 ce, .int .i64 1, .slice (some ⟨bI, 0, none⟩) r r, .slice (some ⟨bC, 0, none⟩) r r, .map (some bm)]) ∧ w'.ownsRow w.heap.size 3 1 (.slice (some ⟨bI, 0, none⟩) r r) r (rwI r (inV [])) ∧ w'.ownsRow w.heap.size 4 1 (.slice (some ⟨bC, 0, none⟩) r r) r (rwI r (clV [])) ∧ MpI w' bm [] ∧ w.heap.size ≤ bm ∧ Below w.heap.size w w'
set_option maxRecDepth 100000 in
set_option maxHeartbeats 4000000 in
theorem pbegin (pa : Option Addr) (n pc : Nat) (ra : Option Addr) (r rc : Nat) (gr lk ce : Int) (w : World) (hr : r ≤ 64) :
  Calls Try.prog 23 #[.agg #[.slice pa n pc, .slice ra r rc, .int .i64 gr, .int .i64 lk, .int .i64 ce]] w (BegQ w pa n pc ra r rc gr lk ce) := by
 obtain ⟨POST, hP⟩ : ∃ P : Ending → World → Prop, P = BegQ w pa n pc ra r rc gr lk ce := ⟨_, rfl⟩
 have HPo := TW.hide hP
 rw [← hP]
 clear hP
 have hb0 : Below w.heap.size w ((w.alloc (.cells #[.slice pa n pc, .slice ra r rc, .int .i64 gr, .int .i64 lk, .int .i64 ce] 25)).alloc (.cells #[.slice none 0 0, .slice none 0 0, .int .i64 0, .int .i64 0, .int .i64 0, .int .i64 0, .slice none 0 0, .slice none 0 0, .map none] 78)) := ((Below.refl _ _).alloc (Nat.le_refl _) _).alloc (by simp) _
 have HN1 : Hid (((w.alloc (.cells #[.slice pa n pc, .slice ra r rc, .int .i64 gr, .int .i64 lk, .int .i64 ce] 25)).alloc (.cells #[.slice none 0 0, .slice none 0 0, .int .i64 0, .int .i64 0, .int .i64 0, .int .i64 0, .slice none 0 0, .slice none 0 0, .map none] 78)).heap[w.heap.size]? = some (.cells #[.slice pa n pc, .slice ra r rc, .int .i64 gr, .int .i64 lk, .int .i64 ce] 25 (0, 0))) := blk_alloc (heap_alloc_new w _)
 have HN2 : Hid (((w.alloc (.cells #[.slice pa n pc, .slice ra r rc, .int .i64 gr, .int .i64 lk, .int .i64 ce] 25)).alloc (.cells #[.slice none 0 0, .slice none 0 0, .int .i64 0, .int .i64 0, .int .i64 0, .int .i64 0, .slice none 0 0, .slice none 0 0, .map none] 78)).heap[w.heap.size + 1]? = some (.cells #[.slice none 0 0, .slice none 0 0, .int .i64 0, .int .i64 0, .int .i64 0, .int .i64 0, .slice none 0 0, .slice none 0 0, .map none] 78 (0, 0))) := by
  have h1 := heap_alloc_new (w.alloc (.cells #[.slice pa n pc, .slice ra r rc, .int .i64 gr, .int .i64 lk, .int .i64 ce] 25)) (.cells #[.slice none 0 0, .slice none 0 0, .int .i64 0, .int .i64 0, .int .i64 0, .int .i64 0, .slice none 0 0, .slice none 0 0, .map none] 78)
  have h2 : (w.alloc (.cells #[.slice pa n pc, .slice ra r rc, .int .i64 gr, .int .i64 lk, .int .i64 ce] 25)).heap.size = w.heap.size + 1 := by simp
  rw [h2] at h1
  exact h1
 have HB0 := TW.hide hb0
 clear hb0
 go_enter Try.func23, Try.ntmps23
 refine wp_seq_k fun K hK => ?_
 have HK := TW.hide hK
 clear hK
 go_wp2
 refine HK.out _ _ ?_
 clear HK K
 generalize World.alloc _ _ = X at *
 have hgsl := HB0.out.size
 have hgmX : w.heap.size + 1 < X.heap.size := blk_lt HN2.out
 generalize hgm : w.heap.size + 1 = gm at *
 generalize hgs : w.heap.size = gs at *
 obtain ⟨s0, s1, s2, s3, s4⟩ := cellsY5 HN1.out
 refine wp_seq_k fun KZ hKZ => ?_
 have HR : Hid (∀ (bI bC bM : Nat) (W : World), W.heap[gm]? = some (.cells #[.slice pa n pc, .slice ra r rc, .int .i64 gr, .int .i64 lk, .int .i64 ce, .int .i64 1, .slice (some ⟨bI, 0, none⟩) r r, .slice (some ⟨bC, 0, none⟩) r r, .map (some bM)] 78 (0, 0)) → W.ownsRow w.heap.size 3 1 (.slice (some ⟨bI, 0, none⟩) r r) r (rwI r (inV [])) → W.ownsRow w.heap.size 4 1 (.slice (some ⟨bC, 0, none⟩) r r) r (rwI r (clV [])) → MpI W bM [] → w.heap.size ≤ bM → Below w.heap.size w W → KZ { tmps := #[.agg #[.slice pa n pc, .slice ra r rc, .int .i64 gr, .int .i64 lk, .int .i64 ce], .pointer (some ⟨gs, 0, none⟩), .pointer (some ⟨gm, 0, none⟩), .agg #[.slice pa n pc, .slice ra r rc, .int .i64 gr, .int .i64 lk, .int .i64 ce], .pointer (some ⟨gs, 1, none⟩), .slice ra r rc, .int .i64 (r : Int), .slice (some ⟨bI, 0, none⟩) r r, .pointer (some ⟨gs, 1, none⟩), .slice ra r rc, .int .i64 (r : Int), .slice (some ⟨bC, 0, none⟩) r r, .map (some bM), .agg #[.slice pa n pc, .slice ra r rc, .int .i64 gr, .int .i64 lk, .int .i64 ce, .int .i64 1, .slice (some ⟨bI, 0, none⟩) r r, .slice (some ⟨bC, 0, none⟩) r r, .map (some bM)]], defers := [] } W) := by
  intro bI bC bM W h1 h2 h3 h4 h5 h6
  refine hKZ _ _ ?_
  clear hKZ KZ
  refine wp_ret ?_
  refine bodyPost_ret (v := .agg #[.slice pa n pc, .slice ra r rc, .int .i64 gr, .int .i64 lk, .int .i64 ce, .int .i64 1, .slice (some ⟨bI, 0, none⟩) r r, .slice (some ⟨bC, 0, none⟩) r r, .map (some bM)]) (results_cell_row (P := Try.prog) Try.results23 _ _ gm 78 _ (0, 0) _ rfl h1 Try.underlying78 rfl (by kernel_rfl)) rfl ?_
  rw [HPo.out]
  exact ⟨bI, bC, bM, rfl, h2, h3, h4, h5, h6⟩
 clear hKZ
 obtain ⟨i3, hi3, hz30, hz31, hz32⟩ := info_parts' intinfo
 obtain ⟨i4, hi4, hz40, hz41, hz42⟩ := info_parts' boolinfo
 have HX : Hid (Below X.heap.size X X) := Below.refl _ _
 refine wp_region_noPanic ?_
 refine RG.wp_region_L (fun Z => Below X.heap.size X Z) (fun Z => True) [11] (by kernel_rfl) ?_
 refine RG.wpL_any fun Yz54 hY => ?_
 have HBz54 : Hid (Below X.heap.size X Yz54) := by rw [hY]; exact below_drewN (Below.refl _ _) 1
 clear hY
 refine RG.wpL_takeS (fuel := 5) (a' := ?Az54) [0, 1, 2, 3, 5, 6, 7] (by kernel_rfl) (by kernel_rfl) (fun _ _ _ _ _ h => h) trivial (HBz54.out) ?rz54 ?_
 case rz54 =>
  refine RG.RunsS.one (v := .agg #[.slice pa n pc, .slice ra r rc, .int .i64 gr, .int .i64 lk, .int .i64 ce]) (by rfl) (by rfl) (fun Z hT hS => ?_) ?_
  ·have y0 := keepC hS s0; have y1 := keepC hS s1; have y2 := keepC hS s2; have y3 := keepC hS s3; have y4 := keepC hS s4
   go_simp
  simp only [Act.put, lpA, lpZ, lpS, lgT, lgZ, lgS]
  refine RG.RunsS.one (v := ?_) (by rfl) (by rfl) (fun Z hT hS => ?_) ?_
  rotate_left
  ·go_simp
   rfl
  simp only [Act.put, lpA, lpZ, lpS, lgT, lgZ, lgS]
  refine RG.RunsS.one (v := .slice ra r rc) (by rfl) (by rfl) (fun Z hT hS => ?_) ?_
  ·have y0 := keepC hS s0; have y1 := keepC hS s1; have y2 := keepC hS s2; have y3 := keepC hS s3; have y4 := keepC hS s4
   go_simp
  simp only [Act.put, lpA, lpZ, lpS, lgT, lgZ, lgS]
  iterate 2
   refine RG.RunsS.one (v := ?_) (by rfl) (by rfl) (fun Z hT hS => ?_) ?_
   rotate_left
   ·go_simp
    rfl
   simp only [Act.put, lpA, lpZ, lpS, lgT, lgZ, lgS]
  refine RG.RunsS.one (v := .slice ra r rc) (by rfl) (by rfl) (fun Z hT hS => ?_) ?_
  ·have y0 := keepC hS s0; have y1 := keepC hS s1; have y2 := keepC hS s2; have y3 := keepC hS s3; have y4 := keepC hS s4
   go_simp
  simp only [Act.put, lpA, lpZ, lpS, lgT, lgZ, lgS]
  refine RG.RunsS.one (v := ?_) (by rfl) (by rfl) (fun Z hT hS => ?_) ?_
  rotate_left
  ·go_simp
   rfl
  simp only [Act.put, lpA, lpZ, lpS, lgT, lgZ, lgS]
  exact RG.RunsS.nil
 have HTz54 := HBz54
 refine RG.wpL_three (i := 4) (j := 8) (l := 9) (by kernel_rfl) (by rfl) (by rfl) (by rfl) (by rfl) (by rfl) (by rfl) (fun KX hK => ?_) (fun KX hK => ?_) (fun KX hK => ?_)
 ·have HK := TW.hide hK
  clear hK
  refine wp_make_full Yz54 _ _ 23 (by rfl) w.heap.size 3 i3 (.int .i64 0) 1 Try.underlying23 hi3 hz30 hz31 .i64 .i64 (r : Int) (r : Int) r (by rfl) (by rfl) rfl rfl (by rw [hz32]; omega) (by unfold maxLen; omega) (by have := HTz54.out.size; omega) ?_
  intro Vz55 hown hgrow
  rw [made_rep _ rfl, rep_rw r (inV []) _ (fun c => rfl)] at hown
  have HTVz55 : Hid (Below X.heap.size X Vz55) := HTz54.out.grown hgrow HTz54.out.size (by intro k h; cases h)
  have HOI := TW.hide hown
  refine HK.out _ _ trivial (fun _ => HTVz55.out) ?_
  clear HK KX hown hgrow
  try simp only [Act.put, lpA, lpZ, lpS, lgT, lgZ, lgS]
  generalize hqI : Yz54.heap.size = bI at *
  refine RG.wpL_pair (i := 8) (j := 9) (by kernel_rfl) (by rfl) (by rfl) (by rfl) (by rfl) (fun KX hK => ?_) (fun KX hK => ?_)
  ·have HK := TW.hide hK
   clear hK
   refine wp_make_full Vz55 _ _ 49 (by rfl) w.heap.size 4 i4 (.bool false) 1 Try.underlying49 hi4 hz40 hz41 .i64 .i64 (r : Int) (r : Int) r (by rfl) (by rfl) rfl rfl (by rw [hz42]; omega) (by unfold maxLen; omega) (by have := HTVz55.out.size; omega) ?_
   intro Vz56 hown hgrow
   rw [made_rep _ rfl, rep_rw r (clV []) _ (fun c => rfl)] at hown
   have HTVz56 : Hid (Below X.heap.size X Vz56) := HTVz55.out.grown hgrow HTVz55.out.size (by intro k h; cases h)
   have HOI_ := TW.hide (own_keepK HOI.out (fun b hb => (fun hlt => hgrow.block _ hlt (fun h => by cases h)) (own_lt HOI.out b hb)))
   clear HOI
   have HOI := HOI_
   clear HOI_
   have HOC := TW.hide hown
   refine HK.out _ _ trivial (fun _ => HTVz56.out) ?_
   clear HK KX hown hgrow
   try simp only [Act.put, lpA, lpZ, lpS, lgT, lgZ, lgS]
   generalize hqC : Vz55.heap.size = bC at *
   refine RG.wpL_step (i := 9) (by kernel_rfl) (by rfl) (by rfl) (fun KX hK => ?_)
   have HK := TW.hide hK
   clear hK
   have hA : Below Vz56.heap.size Vz56 (Vz56.alloc (.map #[] 0)) := (Below.refl _ _).alloc (Nat.le_refl _) _
   have HOI_ := TW.hide (own_keepK HOI.out (fun b hb => hA.block _ (own_lt HOI.out b hb)))
   clear HOI
   have HOI := HOI_
   clear HOI_
   have HOC_ := TW.hide (own_keepK HOC.out (fun b hb => hA.block _ (own_lt HOC.out b hb)))
   clear HOC
   have HOC := HOC_
   clear HOC_
   have HM := TW.hide (MpI.made Vz56)
   have HTVz57 : Hid (Below X.heap.size X (Vz56.alloc (.map #[] 0))) := HTVz56.out.trans (hA.mono HTVz56.out.size)
   have hbM : w.heap.size ≤ Vz56.heap.size := by have := HTVz56.out.size; omega
   refine wp_makeMap Vz56 76 (by rfl) ?_
   refine HK.out _ _ trivial (fun _ => HTVz57.out) ?_
   clear HK KX hA
   try simp only [Act.put, lpA, lpZ, lpS, lgT, lgZ, lgS]
   generalize Vz56.alloc (.map #[] 0) = Vz57 at *
   generalize hqM : Vz56.heap.size = bM at *
   refine RG.wpL_takeS (fuel := 1) (a' := ?Az58) [10] (by kernel_rfl) (by kernel_rfl) (fun _ _ _ _ _ h => h) trivial (HTVz57.out) ?rz58 ?_
   case rz58 =>
    refine RG.RunsS.one (v := .agg #[.slice pa n pc, .slice ra r rc, .int .i64 gr, .int .i64 lk, .int .i64 ce, .int .i64 1, .slice (some ⟨bI, 0, none⟩) r r, .slice (some ⟨bC, 0, none⟩) r r, .map (some bM)]) (by rfl) (by rfl) (fun Z hT hS => ?_) ?_
    ·skip
     go_simp
    simp only [Act.put, lpA, lpZ, lpS, lgT, lgZ, lgS]
    exact RG.RunsS.nil
   have N5 := TW.hide (blk_keep HN2.out HTVz57.out)
   have HW1 := TW.hide (setRow_heap _ _ _ #[.slice pa n pc, .slice ra r rc, .int .i64 gr, .int .i64 lk, .int .i64 ce, .int .i64 1, .slice (some ⟨bI, 0, none⟩) r r, .slice (some ⟨bC, 0, none⟩) r r, .map (some bM)] _ _ N5.out)
   have HW2 : Hid ((Vz57.setRow gm #[.slice pa n pc, .slice ra r rc, .int .i64 gr, .int .i64 lk, .int .i64 ce, .int .i64 1, .slice (some ⟨bI, 0, none⟩) r r, .slice (some ⟨bC, 0, none⟩) r r, .map (some bM)]).ownsRow w.heap.size 3 1 (.slice (some ⟨bI, 0, none⟩) r r) r (rwI r (inV []))) := own_keepK HOI.out (fun b hb => setRow_other _ _ _ _ (fun e => by subst e; exact own_neB HOI.out N5.out (by decide) hb))
   have HW3 : Hid ((Vz57.setRow gm #[.slice pa n pc, .slice ra r rc, .int .i64 gr, .int .i64 lk, .int .i64 ce, .int .i64 1, .slice (some ⟨bI, 0, none⟩) r r, .slice (some ⟨bC, 0, none⟩) r r, .map (some bM)]).ownsRow w.heap.size 4 1 (.slice (some ⟨bC, 0, none⟩) r r) r (rwI r (clV []))) := own_keepK HOC.out (fun b hb => setRow_other _ _ _ _ (fun e => by subst e; exact own_neB HOC.out N5.out (by decide) hb))
   have HW4 : Hid (MpI (Vz57.setRow gm #[.slice pa n pc, .slice ra r rc, .int .i64 gr, .int .i64 lk, .int .i64 ce, .int .i64 1, .slice (some ⟨bI, 0, none⟩) r r, .slice (some ⟨bC, 0, none⟩) r r, .map (some bM)]) bM []) := HM.out.keep (setRow_other _ _ _ _ (HM.out.ne N5.out))
   have HW5 : Hid (Below w.heap.size w (Vz57.setRow gm #[.slice pa n pc, .slice ra r rc, .int .i64 gr, .int .i64 lk, .int .i64 ce, .int .i64 1, .slice (some ⟨bI, 0, none⟩) r r, .slice (some ⟨bC, 0, none⟩) r r, .map (some bM)])) := by rw [hgs]; exact below_setRow (HB0.out.trans (HTVz57.out.mono hgsl)) (by omega)
   refine RG.wpL_late (i := 11) (by kernel_rfl) (by rfl) (by rfl) (by kernel_rfl) (fun KX hK => ?_)
   have HK := TW.hide hK
   clear hK
   refine wp_store_row 78 _ _ (by rfl) gm #[.slice pa n pc, .slice ra r rc, .int .i64 gr, .int .i64 lk, .int .i64 ce, .int .i64 1, .slice (some ⟨bI, 0, none⟩) r r, .slice (some ⟨bC, 0, none⟩) r r, .map (some bM)] (by rfl) (by rfl) 78 _ N5.out (by kernel_rfl) (by rfl) (by simp [Value.oneCell']) ?_
   simp only [Act.put, lpA, lpZ, lpS, lgT, lgZ, lgS]
   refine HK.out _ _ trivial ?_
   clear HK KX
   refine RG.wpL_done (by kernel_rfl) ?_ _
   refine NoPanic.normal ?_
   exact HR.out bI bC bM _ HW1.out HW2.out HW3.out HW4.out hbM HW5.out
  ·have HK := TW.hide hK
   clear hK
   have hA : Below Vz55.heap.size Vz55 (Vz55.alloc (.map #[] 0)) := (Below.refl _ _).alloc (Nat.le_refl _) _
   have HOI_ := TW.hide (own_keepK HOI.out (fun b hb => hA.block _ (own_lt HOI.out b hb)))
   clear HOI
   have HOI := HOI_
   clear HOI_
   have HM := TW.hide (MpI.made Vz55)
   have HTVz59 : Hid (Below X.heap.size X (Vz55.alloc (.map #[] 0))) := HTVz55.out.trans (hA.mono HTVz55.out.size)
   have hbM : w.heap.size ≤ Vz55.heap.size := by have := HTVz55.out.size; omega
   refine wp_makeMap Vz55 76 (by rfl) ?_
   refine HK.out _ _ trivial (fun _ => HTVz59.out) ?_
   clear HK KX hA
   try simp only [Act.put, lpA, lpZ, lpS, lgT, lgZ, lgS]
   generalize Vz55.alloc (.map #[] 0) = Vz59 at *
   generalize hqM : Vz55.heap.size = bM at *
   refine RG.wpL_step (i := 8) (by kernel_rfl) (by rfl) (by rfl) (fun KX hK => ?_)
   have HK := TW.hide hK
   clear hK
   refine wp_make_full Vz59 _ _ 49 (by rfl) w.heap.size 4 i4 (.bool false) 1 Try.underlying49 hi4 hz40 hz41 .i64 .i64 (r : Int) (r : Int) r (by rfl) (by rfl) rfl rfl (by rw [hz42]; omega) (by unfold maxLen; omega) (by have := HTVz59.out.size; omega) ?_
   intro Vz60 hown hgrow
   rw [made_rep _ rfl, rep_rw r (clV []) _ (fun c => rfl)] at hown
   have HTVz60 : Hid (Below X.heap.size X Vz60) := HTVz59.out.grown hgrow HTVz59.out.size (by intro k h; cases h)
   have HOI_ := TW.hide (own_keepK HOI.out (fun b hb => (fun hlt => hgrow.block _ hlt (fun h => by cases h)) (own_lt HOI.out b hb)))
   clear HOI
   have HOI := HOI_
   clear HOI_
   have HM_ := TW.hide (HM.out.keep ((fun hlt => hgrow.block _ hlt (fun h => by cases h)) (HM.out.lt)))
   clear HM
   have HM := HM_
   clear HM_
   have HOC := TW.hide hown
   refine HK.out _ _ trivial (fun _ => HTVz60.out) ?_
   clear HK KX hown hgrow
   try simp only [Act.put, lpA, lpZ, lpS, lgT, lgZ, lgS]
   generalize hqC : Vz59.heap.size = bC at *
   refine RG.wpL_takeS (fuel := 1) (a' := ?Az61) [10] (by kernel_rfl) (by kernel_rfl) (fun _ _ _ _ _ h => h) trivial (HTVz60.out) ?rz61 ?_
   case rz61 =>
    refine RG.RunsS.one (v := .agg #[.slice pa n pc, .slice ra r rc, .int .i64 gr, .int .i64 lk, .int .i64 ce, .int .i64 1, .slice (some ⟨bI, 0, none⟩) r r, .slice (some ⟨bC, 0, none⟩) r r, .map (some bM)]) (by rfl) (by rfl) (fun Z hT hS => ?_) ?_
    ·skip
     go_simp
    simp only [Act.put, lpA, lpZ, lpS, lgT, lgZ, lgS]
    exact RG.RunsS.nil
   have N5 := TW.hide (blk_keep HN2.out HTVz60.out)
   have HW1 := TW.hide (setRow_heap _ _ _ #[.slice pa n pc, .slice ra r rc, .int .i64 gr, .int .i64 lk, .int .i64 ce, .int .i64 1, .slice (some ⟨bI, 0, none⟩) r r, .slice (some ⟨bC, 0, none⟩) r r, .map (some bM)] _ _ N5.out)
   have HW2 : Hid ((Vz60.setRow gm #[.slice pa n pc, .slice ra r rc, .int .i64 gr, .int .i64 lk, .int .i64 ce, .int .i64 1, .slice (some ⟨bI, 0, none⟩) r r, .slice (some ⟨bC, 0, none⟩) r r, .map (some bM)]).ownsRow w.heap.size 3 1 (.slice (some ⟨bI, 0, none⟩) r r) r (rwI r (inV []))) := own_keepK HOI.out (fun b hb => setRow_other _ _ _ _ (fun e => by subst e; exact own_neB HOI.out N5.out (by decide) hb))
   have HW3 : Hid ((Vz60.setRow gm #[.slice pa n pc, .slice ra r rc, .int .i64 gr, .int .i64 lk, .int .i64 ce, .int .i64 1, .slice (some ⟨bI, 0, none⟩) r r, .slice (some ⟨bC, 0, none⟩) r r, .map (some bM)]).ownsRow w.heap.size 4 1 (.slice (some ⟨bC, 0, none⟩) r r) r (rwI r (clV []))) := own_keepK HOC.out (fun b hb => setRow_other _ _ _ _ (fun e => by subst e; exact own_neB HOC.out N5.out (by decide) hb))
   have HW4 : Hid (MpI (Vz60.setRow gm #[.slice pa n pc, .slice ra r rc, .int .i64 gr, .int .i64 lk, .int .i64 ce, .int .i64 1, .slice (some ⟨bI, 0, none⟩) r r, .slice (some ⟨bC, 0, none⟩) r r, .map (some bM)]) bM []) := HM.out.keep (setRow_other _ _ _ _ (HM.out.ne N5.out))
   have HW5 : Hid (Below w.heap.size w (Vz60.setRow gm #[.slice pa n pc, .slice ra r rc, .int .i64 gr, .int .i64 lk, .int .i64 ce, .int .i64 1, .slice (some ⟨bI, 0, none⟩) r r, .slice (some ⟨bC, 0, none⟩) r r, .map (some bM)])) := by rw [hgs]; exact below_setRow (HB0.out.trans (HTVz60.out.mono hgsl)) (by omega)
   refine RG.wpL_late (i := 11) (by kernel_rfl) (by rfl) (by rfl) (by kernel_rfl) (fun KX hK => ?_)
   have HK := TW.hide hK
   clear hK
   refine wp_store_row 78 _ _ (by rfl) gm #[.slice pa n pc, .slice ra r rc, .int .i64 gr, .int .i64 lk, .int .i64 ce, .int .i64 1, .slice (some ⟨bI, 0, none⟩) r r, .slice (some ⟨bC, 0, none⟩) r r, .map (some bM)] (by rfl) (by rfl) 78 _ N5.out (by kernel_rfl) (by rfl) (by simp [Value.oneCell']) ?_
   simp only [Act.put, lpA, lpZ, lpS, lgT, lgZ, lgS]
   refine HK.out _ _ trivial ?_
   clear HK KX
   refine RG.wpL_done (by kernel_rfl) ?_ _
   refine NoPanic.normal ?_
   exact HR.out bI bC bM _ HW1.out HW2.out HW3.out HW4.out hbM HW5.out
 ·have HK := TW.hide hK
  clear hK
  refine wp_make_full Yz54 _ _ 49 (by rfl) w.heap.size 4 i4 (.bool false) 1 Try.underlying49 hi4 hz40 hz41 .i64 .i64 (r : Int) (r : Int) r (by rfl) (by rfl) rfl rfl (by rw [hz42]; omega) (by unfold maxLen; omega) (by have := HTz54.out.size; omega) ?_
  intro Vz62 hown hgrow
  rw [made_rep _ rfl, rep_rw r (clV []) _ (fun c => rfl)] at hown
  have HTVz62 : Hid (Below X.heap.size X Vz62) := HTz54.out.grown hgrow HTz54.out.size (by intro k h; cases h)
  have HOC := TW.hide hown
  refine HK.out _ _ trivial (fun _ => HTVz62.out) ?_
  clear HK KX hown hgrow
  try simp only [Act.put, lpA, lpZ, lpS, lgT, lgZ, lgS]
  generalize hqC : Yz54.heap.size = bC at *
  refine RG.wpL_pair (i := 4) (j := 9) (by kernel_rfl) (by rfl) (by rfl) (by rfl) (by rfl) (fun KX hK => ?_) (fun KX hK => ?_)
  ·have HK := TW.hide hK
   clear hK
   refine wp_make_full Vz62 _ _ 23 (by rfl) w.heap.size 3 i3 (.int .i64 0) 1 Try.underlying23 hi3 hz30 hz31 .i64 .i64 (r : Int) (r : Int) r (by rfl) (by rfl) rfl rfl (by rw [hz32]; omega) (by unfold maxLen; omega) (by have := HTVz62.out.size; omega) ?_
   intro Vz63 hown hgrow
   rw [made_rep _ rfl, rep_rw r (inV []) _ (fun c => rfl)] at hown
   have HTVz63 : Hid (Below X.heap.size X Vz63) := HTVz62.out.grown hgrow HTVz62.out.size (by intro k h; cases h)
   have HOC_ := TW.hide (own_keepK HOC.out (fun b hb => (fun hlt => hgrow.block _ hlt (fun h => by cases h)) (own_lt HOC.out b hb)))
   clear HOC
   have HOC := HOC_
   clear HOC_
   have HOI := TW.hide hown
   refine HK.out _ _ trivial (fun _ => HTVz63.out) ?_
   clear HK KX hown hgrow
   try simp only [Act.put, lpA, lpZ, lpS, lgT, lgZ, lgS]
   generalize hqI : Vz62.heap.size = bI at *
   refine RG.wpL_step (i := 9) (by kernel_rfl) (by rfl) (by rfl) (fun KX hK => ?_)
   have HK := TW.hide hK
   clear hK
   have hA : Below Vz63.heap.size Vz63 (Vz63.alloc (.map #[] 0)) := (Below.refl _ _).alloc (Nat.le_refl _) _
   have HOC_ := TW.hide (own_keepK HOC.out (fun b hb => hA.block _ (own_lt HOC.out b hb)))
   clear HOC
   have HOC := HOC_
   clear HOC_
   have HOI_ := TW.hide (own_keepK HOI.out (fun b hb => hA.block _ (own_lt HOI.out b hb)))
   clear HOI
   have HOI := HOI_
   clear HOI_
   have HM := TW.hide (MpI.made Vz63)
   have HTVz64 : Hid (Below X.heap.size X (Vz63.alloc (.map #[] 0))) := HTVz63.out.trans (hA.mono HTVz63.out.size)
   have hbM : w.heap.size ≤ Vz63.heap.size := by have := HTVz63.out.size; omega
   refine wp_makeMap Vz63 76 (by rfl) ?_
   refine HK.out _ _ trivial (fun _ => HTVz64.out) ?_
   clear HK KX hA
   try simp only [Act.put, lpA, lpZ, lpS, lgT, lgZ, lgS]
   generalize Vz63.alloc (.map #[] 0) = Vz64 at *
   generalize hqM : Vz63.heap.size = bM at *
   refine RG.wpL_takeS (fuel := 1) (a' := ?Az65) [10] (by kernel_rfl) (by kernel_rfl) (fun _ _ _ _ _ h => h) trivial (HTVz64.out) ?rz65 ?_
   case rz65 =>
    refine RG.RunsS.one (v := .agg #[.slice pa n pc, .slice ra r rc, .int .i64 gr, .int .i64 lk, .int .i64 ce, .int .i64 1, .slice (some ⟨bI, 0, none⟩) r r, .slice (some ⟨bC, 0, none⟩) r r, .map (some bM)]) (by rfl) (by rfl) (fun Z hT hS => ?_) ?_
    ·skip
     go_simp
    simp only [Act.put, lpA, lpZ, lpS, lgT, lgZ, lgS]
    exact RG.RunsS.nil
   have N5 := TW.hide (blk_keep HN2.out HTVz64.out)
   have HW1 := TW.hide (setRow_heap _ _ _ #[.slice pa n pc, .slice ra r rc, .int .i64 gr, .int .i64 lk, .int .i64 ce, .int .i64 1, .slice (some ⟨bI, 0, none⟩) r r, .slice (some ⟨bC, 0, none⟩) r r, .map (some bM)] _ _ N5.out)
   have HW2 : Hid ((Vz64.setRow gm #[.slice pa n pc, .slice ra r rc, .int .i64 gr, .int .i64 lk, .int .i64 ce, .int .i64 1, .slice (some ⟨bI, 0, none⟩) r r, .slice (some ⟨bC, 0, none⟩) r r, .map (some bM)]).ownsRow w.heap.size 3 1 (.slice (some ⟨bI, 0, none⟩) r r) r (rwI r (inV []))) := own_keepK HOI.out (fun b hb => setRow_other _ _ _ _ (fun e => by subst e; exact own_neB HOI.out N5.out (by decide) hb))
   have HW3 : Hid ((Vz64.setRow gm #[.slice pa n pc, .slice ra r rc, .int .i64 gr, .int .i64 lk, .int .i64 ce, .int .i64 1, .slice (some ⟨bI, 0, none⟩) r r, .slice (some ⟨bC, 0, none⟩) r r, .map (some bM)]).ownsRow w.heap.size 4 1 (.slice (some ⟨bC, 0, none⟩) r r) r (rwI r (clV []))) := own_keepK HOC.out (fun b hb => setRow_other _ _ _ _ (fun e => by subst e; exact own_neB HOC.out N5.out (by decide) hb))
   have HW4 : Hid (MpI (Vz64.setRow gm #[.slice pa n pc, .slice ra r rc, .int .i64 gr, .int .i64 lk, .int .i64 ce, .int .i64 1, .slice (some ⟨bI, 0, none⟩) r r, .slice (some ⟨bC, 0, none⟩) r r, .map (some bM)]) bM []) := HM.out.keep (setRow_other _ _ _ _ (HM.out.ne N5.out))
   have HW5 : Hid (Below w.heap.size w (Vz64.setRow gm #[.slice pa n pc, .slice ra r rc, .int .i64 gr, .int .i64 lk, .int .i64 ce, .int .i64 1, .slice (some ⟨bI, 0, none⟩) r r, .slice (some ⟨bC, 0, none⟩) r r, .map (some bM)])) := by rw [hgs]; exact below_setRow (HB0.out.trans (HTVz64.out.mono hgsl)) (by omega)
   refine RG.wpL_late (i := 11) (by kernel_rfl) (by rfl) (by rfl) (by kernel_rfl) (fun KX hK => ?_)
   have HK := TW.hide hK
   clear hK
   refine wp_store_row 78 _ _ (by rfl) gm #[.slice pa n pc, .slice ra r rc, .int .i64 gr, .int .i64 lk, .int .i64 ce, .int .i64 1, .slice (some ⟨bI, 0, none⟩) r r, .slice (some ⟨bC, 0, none⟩) r r, .map (some bM)] (by rfl) (by rfl) 78 _ N5.out (by kernel_rfl) (by rfl) (by simp [Value.oneCell']) ?_
   simp only [Act.put, lpA, lpZ, lpS, lgT, lgZ, lgS]
   refine HK.out _ _ trivial ?_
   clear HK KX
   refine RG.wpL_done (by kernel_rfl) ?_ _
   refine NoPanic.normal ?_
   exact HR.out bI bC bM _ HW1.out HW2.out HW3.out HW4.out hbM HW5.out
  ·have HK := TW.hide hK
   clear hK
   have hA : Below Vz62.heap.size Vz62 (Vz62.alloc (.map #[] 0)) := (Below.refl _ _).alloc (Nat.le_refl _) _
   have HOC_ := TW.hide (own_keepK HOC.out (fun b hb => hA.block _ (own_lt HOC.out b hb)))
   clear HOC
   have HOC := HOC_
   clear HOC_
   have HM := TW.hide (MpI.made Vz62)
   have HTVz66 : Hid (Below X.heap.size X (Vz62.alloc (.map #[] 0))) := HTVz62.out.trans (hA.mono HTVz62.out.size)
   have hbM : w.heap.size ≤ Vz62.heap.size := by have := HTVz62.out.size; omega
   refine wp_makeMap Vz62 76 (by rfl) ?_
   refine HK.out _ _ trivial (fun _ => HTVz66.out) ?_
   clear HK KX hA
   try simp only [Act.put, lpA, lpZ, lpS, lgT, lgZ, lgS]
   generalize Vz62.alloc (.map #[] 0) = Vz66 at *
   generalize hqM : Vz62.heap.size = bM at *
   refine RG.wpL_step (i := 4) (by kernel_rfl) (by rfl) (by rfl) (fun KX hK => ?_)
   have HK := TW.hide hK
   clear hK
   refine wp_make_full Vz66 _ _ 23 (by rfl) w.heap.size 3 i3 (.int .i64 0) 1 Try.underlying23 hi3 hz30 hz31 .i64 .i64 (r : Int) (r : Int) r (by rfl) (by rfl) rfl rfl (by rw [hz32]; omega) (by unfold maxLen; omega) (by have := HTVz66.out.size; omega) ?_
   intro Vz67 hown hgrow
   rw [made_rep _ rfl, rep_rw r (inV []) _ (fun c => rfl)] at hown
   have HTVz67 : Hid (Below X.heap.size X Vz67) := HTVz66.out.grown hgrow HTVz66.out.size (by intro k h; cases h)
   have HOC_ := TW.hide (own_keepK HOC.out (fun b hb => (fun hlt => hgrow.block _ hlt (fun h => by cases h)) (own_lt HOC.out b hb)))
   clear HOC
   have HOC := HOC_
   clear HOC_
   have HM_ := TW.hide (HM.out.keep ((fun hlt => hgrow.block _ hlt (fun h => by cases h)) (HM.out.lt)))
   clear HM
   have HM := HM_
   clear HM_
   have HOI := TW.hide hown
   refine HK.out _ _ trivial (fun _ => HTVz67.out) ?_
   clear HK KX hown hgrow
   try simp only [Act.put, lpA, lpZ, lpS, lgT, lgZ, lgS]
   generalize hqI : Vz66.heap.size = bI at *
   refine RG.wpL_takeS (fuel := 1) (a' := ?Az68) [10] (by kernel_rfl) (by kernel_rfl) (fun _ _ _ _ _ h => h) trivial (HTVz67.out) ?rz68 ?_
   case rz68 =>
    refine RG.RunsS.one (v := .agg #[.slice pa n pc, .slice ra r rc, .int .i64 gr, .int .i64 lk, .int .i64 ce, .int .i64 1, .slice (some ⟨bI, 0, none⟩) r r, .slice (some ⟨bC, 0, none⟩) r r, .map (some bM)]) (by rfl) (by rfl) (fun Z hT hS => ?_) ?_
    ·skip
     go_simp
    simp only [Act.put, lpA, lpZ, lpS, lgT, lgZ, lgS]
    exact RG.RunsS.nil
   have N5 := TW.hide (blk_keep HN2.out HTVz67.out)
   have HW1 := TW.hide (setRow_heap _ _ _ #[.slice pa n pc, .slice ra r rc, .int .i64 gr, .int .i64 lk, .int .i64 ce, .int .i64 1, .slice (some ⟨bI, 0, none⟩) r r, .slice (some ⟨bC, 0, none⟩) r r, .map (some bM)] _ _ N5.out)
   have HW2 : Hid ((Vz67.setRow gm #[.slice pa n pc, .slice ra r rc, .int .i64 gr, .int .i64 lk, .int .i64 ce, .int .i64 1, .slice (some ⟨bI, 0, none⟩) r r, .slice (some ⟨bC, 0, none⟩) r r, .map (some bM)]).ownsRow w.heap.size 3 1 (.slice (some ⟨bI, 0, none⟩) r r) r (rwI r (inV []))) := own_keepK HOI.out (fun b hb => setRow_other _ _ _ _ (fun e => by subst e; exact own_neB HOI.out N5.out (by decide) hb))
   have HW3 : Hid ((Vz67.setRow gm #[.slice pa n pc, .slice ra r rc, .int .i64 gr, .int .i64 lk, .int .i64 ce, .int .i64 1, .slice (some ⟨bI, 0, none⟩) r r, .slice (some ⟨bC, 0, none⟩) r r, .map (some bM)]).ownsRow w.heap.size 4 1 (.slice (some ⟨bC, 0, none⟩) r r) r (rwI r (clV []))) := own_keepK HOC.out (fun b hb => setRow_other _ _ _ _ (fun e => by subst e; exact own_neB HOC.out N5.out (by decide) hb))
   have HW4 : Hid (MpI (Vz67.setRow gm #[.slice pa n pc, .slice ra r rc, .int .i64 gr, .int .i64 lk, .int .i64 ce, .int .i64 1, .slice (some ⟨bI, 0, none⟩) r r, .slice (some ⟨bC, 0, none⟩) r r, .map (some bM)]) bM []) := HM.out.keep (setRow_other _ _ _ _ (HM.out.ne N5.out))
   have HW5 : Hid (Below w.heap.size w (Vz67.setRow gm #[.slice pa n pc, .slice ra r rc, .int .i64 gr, .int .i64 lk, .int .i64 ce, .int .i64 1, .slice (some ⟨bI, 0, none⟩) r r, .slice (some ⟨bC, 0, none⟩) r r, .map (some bM)])) := by rw [hgs]; exact below_setRow (HB0.out.trans (HTVz67.out.mono hgsl)) (by omega)
   refine RG.wpL_late (i := 11) (by kernel_rfl) (by rfl) (by rfl) (by kernel_rfl) (fun KX hK => ?_)
   have HK := TW.hide hK
   clear hK
   refine wp_store_row 78 _ _ (by rfl) gm #[.slice pa n pc, .slice ra r rc, .int .i64 gr, .int .i64 lk, .int .i64 ce, .int .i64 1, .slice (some ⟨bI, 0, none⟩) r r, .slice (some ⟨bC, 0, none⟩) r r, .map (some bM)] (by rfl) (by rfl) 78 _ N5.out (by kernel_rfl) (by rfl) (by simp [Value.oneCell']) ?_
   simp only [Act.put, lpA, lpZ, lpS, lgT, lgZ, lgS]
   refine HK.out _ _ trivial ?_
   clear HK KX
   refine RG.wpL_done (by kernel_rfl) ?_ _
   refine NoPanic.normal ?_
   exact HR.out bI bC bM _ HW1.out HW2.out HW3.out HW4.out hbM HW5.out
 ·have HK := TW.hide hK
  clear hK
  have hA : Below Yz54.heap.size Yz54 (Yz54.alloc (.map #[] 0)) := (Below.refl _ _).alloc (Nat.le_refl _) _
  have HM := TW.hide (MpI.made Yz54)
  have HTVz69 : Hid (Below X.heap.size X (Yz54.alloc (.map #[] 0))) := HTz54.out.trans (hA.mono HTz54.out.size)
  have hbM : w.heap.size ≤ Yz54.heap.size := by have := HTz54.out.size; omega
  refine wp_makeMap Yz54 76 (by rfl) ?_
  refine HK.out _ _ trivial (fun _ => HTVz69.out) ?_
  clear HK KX hA
  try simp only [Act.put, lpA, lpZ, lpS, lgT, lgZ, lgS]
  generalize Yz54.alloc (.map #[] 0) = Vz69 at *
  generalize hqM : Yz54.heap.size = bM at *
  refine RG.wpL_pair (i := 4) (j := 8) (by kernel_rfl) (by rfl) (by rfl) (by rfl) (by rfl) (fun KX hK => ?_) (fun KX hK => ?_)
  ·have HK := TW.hide hK
   clear hK
   refine wp_make_full Vz69 _ _ 23 (by rfl) w.heap.size 3 i3 (.int .i64 0) 1 Try.underlying23 hi3 hz30 hz31 .i64 .i64 (r : Int) (r : Int) r (by rfl) (by rfl) rfl rfl (by rw [hz32]; omega) (by unfold maxLen; omega) (by have := HTVz69.out.size; omega) ?_
   intro Vz70 hown hgrow
   rw [made_rep _ rfl, rep_rw r (inV []) _ (fun c => rfl)] at hown
   have HTVz70 : Hid (Below X.heap.size X Vz70) := HTVz69.out.grown hgrow HTVz69.out.size (by intro k h; cases h)
   have HM_ := TW.hide (HM.out.keep ((fun hlt => hgrow.block _ hlt (fun h => by cases h)) (HM.out.lt)))
   clear HM
   have HM := HM_
   clear HM_
   have HOI := TW.hide hown
   refine HK.out _ _ trivial (fun _ => HTVz70.out) ?_
   clear HK KX hown hgrow
   try simp only [Act.put, lpA, lpZ, lpS, lgT, lgZ, lgS]
   generalize hqI : Vz69.heap.size = bI at *
   refine RG.wpL_step (i := 8) (by kernel_rfl) (by rfl) (by rfl) (fun KX hK => ?_)
   have HK := TW.hide hK
   clear hK
   refine wp_make_full Vz70 _ _ 49 (by rfl) w.heap.size 4 i4 (.bool false) 1 Try.underlying49 hi4 hz40 hz41 .i64 .i64 (r : Int) (r : Int) r (by rfl) (by rfl) rfl rfl (by rw [hz42]; omega) (by unfold maxLen; omega) (by have := HTVz70.out.size; omega) ?_
   intro Vz71 hown hgrow
   rw [made_rep _ rfl, rep_rw r (clV []) _ (fun c => rfl)] at hown
   have HTVz71 : Hid (Below X.heap.size X Vz71) := HTVz70.out.grown hgrow HTVz70.out.size (by intro k h; cases h)
   have HM_ := TW.hide (HM.out.keep ((fun hlt => hgrow.block _ hlt (fun h => by cases h)) (HM.out.lt)))
   clear HM
   have HM := HM_
   clear HM_
   have HOI_ := TW.hide (own_keepK HOI.out (fun b hb => (fun hlt => hgrow.block _ hlt (fun h => by cases h)) (own_lt HOI.out b hb)))
   clear HOI
   have HOI := HOI_
   clear HOI_
   have HOC := TW.hide hown
   refine HK.out _ _ trivial (fun _ => HTVz71.out) ?_
   clear HK KX hown hgrow
   try simp only [Act.put, lpA, lpZ, lpS, lgT, lgZ, lgS]
   generalize hqC : Vz70.heap.size = bC at *
   refine RG.wpL_takeS (fuel := 1) (a' := ?Az72) [10] (by kernel_rfl) (by kernel_rfl) (fun _ _ _ _ _ h => h) trivial (HTVz71.out) ?rz72 ?_
   case rz72 =>
    refine RG.RunsS.one (v := .agg #[.slice pa n pc, .slice ra r rc, .int .i64 gr, .int .i64 lk, .int .i64 ce, .int .i64 1, .slice (some ⟨bI, 0, none⟩) r r, .slice (some ⟨bC, 0, none⟩) r r, .map (some bM)]) (by rfl) (by rfl) (fun Z hT hS => ?_) ?_
    ·skip
     go_simp
    simp only [Act.put, lpA, lpZ, lpS, lgT, lgZ, lgS]
    exact RG.RunsS.nil
   have N5 := TW.hide (blk_keep HN2.out HTVz71.out)
   have HW1 := TW.hide (setRow_heap _ _ _ #[.slice pa n pc, .slice ra r rc, .int .i64 gr, .int .i64 lk, .int .i64 ce, .int .i64 1, .slice (some ⟨bI, 0, none⟩) r r, .slice (some ⟨bC, 0, none⟩) r r, .map (some bM)] _ _ N5.out)
   have HW2 : Hid ((Vz71.setRow gm #[.slice pa n pc, .slice ra r rc, .int .i64 gr, .int .i64 lk, .int .i64 ce, .int .i64 1, .slice (some ⟨bI, 0, none⟩) r r, .slice (some ⟨bC, 0, none⟩) r r, .map (some bM)]).ownsRow w.heap.size 3 1 (.slice (some ⟨bI, 0, none⟩) r r) r (rwI r (inV []))) := own_keepK HOI.out (fun b hb => setRow_other _ _ _ _ (fun e => by subst e; exact own_neB HOI.out N5.out (by decide) hb))
   have HW3 : Hid ((Vz71.setRow gm #[.slice pa n pc, .slice ra r rc, .int .i64 gr, .int .i64 lk, .int .i64 ce, .int .i64 1, .slice (some ⟨bI, 0, none⟩) r r, .slice (some ⟨bC, 0, none⟩) r r, .map (some bM)]).ownsRow w.heap.size 4 1 (.slice (some ⟨bC, 0, none⟩) r r) r (rwI r (clV []))) := own_keepK HOC.out (fun b hb => setRow_other _ _ _ _ (fun e => by subst e; exact own_neB HOC.out N5.out (by decide) hb))
   have HW4 : Hid (MpI (Vz71.setRow gm #[.slice pa n pc, .slice ra r rc, .int .i64 gr, .int .i64 lk, .int .i64 ce, .int .i64 1, .slice (some ⟨bI, 0, none⟩) r r, .slice (some ⟨bC, 0, none⟩) r r, .map (some bM)]) bM []) := HM.out.keep (setRow_other _ _ _ _ (HM.out.ne N5.out))
   have HW5 : Hid (Below w.heap.size w (Vz71.setRow gm #[.slice pa n pc, .slice ra r rc, .int .i64 gr, .int .i64 lk, .int .i64 ce, .int .i64 1, .slice (some ⟨bI, 0, none⟩) r r, .slice (some ⟨bC, 0, none⟩) r r, .map (some bM)])) := by rw [hgs]; exact below_setRow (HB0.out.trans (HTVz71.out.mono hgsl)) (by omega)
   refine RG.wpL_late (i := 11) (by kernel_rfl) (by rfl) (by rfl) (by kernel_rfl) (fun KX hK => ?_)
   have HK := TW.hide hK
   clear hK
   refine wp_store_row 78 _ _ (by rfl) gm #[.slice pa n pc, .slice ra r rc, .int .i64 gr, .int .i64 lk, .int .i64 ce, .int .i64 1, .slice (some ⟨bI, 0, none⟩) r r, .slice (some ⟨bC, 0, none⟩) r r, .map (some bM)] (by rfl) (by rfl) 78 _ N5.out (by kernel_rfl) (by rfl) (by simp [Value.oneCell']) ?_
   simp only [Act.put, lpA, lpZ, lpS, lgT, lgZ, lgS]
   refine HK.out _ _ trivial ?_
   clear HK KX
   refine RG.wpL_done (by kernel_rfl) ?_ _
   refine NoPanic.normal ?_
   exact HR.out bI bC bM _ HW1.out HW2.out HW3.out HW4.out hbM HW5.out
  ·have HK := TW.hide hK
   clear hK
   refine wp_make_full Vz69 _ _ 49 (by rfl) w.heap.size 4 i4 (.bool false) 1 Try.underlying49 hi4 hz40 hz41 .i64 .i64 (r : Int) (r : Int) r (by rfl) (by rfl) rfl rfl (by rw [hz42]; omega) (by unfold maxLen; omega) (by have := HTVz69.out.size; omega) ?_
   intro Vz73 hown hgrow
   rw [made_rep _ rfl, rep_rw r (clV []) _ (fun c => rfl)] at hown
   have HTVz73 : Hid (Below X.heap.size X Vz73) := HTVz69.out.grown hgrow HTVz69.out.size (by intro k h; cases h)
   have HM_ := TW.hide (HM.out.keep ((fun hlt => hgrow.block _ hlt (fun h => by cases h)) (HM.out.lt)))
   clear HM
   have HM := HM_
   clear HM_
   have HOC := TW.hide hown
   refine HK.out _ _ trivial (fun _ => HTVz73.out) ?_
   clear HK KX hown hgrow
   try simp only [Act.put, lpA, lpZ, lpS, lgT, lgZ, lgS]
   generalize hqC : Vz69.heap.size = bC at *
   refine RG.wpL_step (i := 4) (by kernel_rfl) (by rfl) (by rfl) (fun KX hK => ?_)
   have HK := TW.hide hK
   clear hK
   refine wp_make_full Vz73 _ _ 23 (by rfl) w.heap.size 3 i3 (.int .i64 0) 1 Try.underlying23 hi3 hz30 hz31 .i64 .i64 (r : Int) (r : Int) r (by rfl) (by rfl) rfl rfl (by rw [hz32]; omega) (by unfold maxLen; omega) (by have := HTVz73.out.size; omega) ?_
   intro Vz74 hown hgrow
   rw [made_rep _ rfl, rep_rw r (inV []) _ (fun c => rfl)] at hown
   have HTVz74 : Hid (Below X.heap.size X Vz74) := HTVz73.out.grown hgrow HTVz73.out.size (by intro k h; cases h)
   have HM_ := TW.hide (HM.out.keep ((fun hlt => hgrow.block _ hlt (fun h => by cases h)) (HM.out.lt)))
   clear HM
   have HM := HM_
   clear HM_
   have HOC_ := TW.hide (own_keepK HOC.out (fun b hb => (fun hlt => hgrow.block _ hlt (fun h => by cases h)) (own_lt HOC.out b hb)))
   clear HOC
   have HOC := HOC_
   clear HOC_
   have HOI := TW.hide hown
   refine HK.out _ _ trivial (fun _ => HTVz74.out) ?_
   clear HK KX hown hgrow
   try simp only [Act.put, lpA, lpZ, lpS, lgT, lgZ, lgS]
   generalize hqI : Vz73.heap.size = bI at *
   refine RG.wpL_takeS (fuel := 1) (a' := ?Az75) [10] (by kernel_rfl) (by kernel_rfl) (fun _ _ _ _ _ h => h) trivial (HTVz74.out) ?rz75 ?_
   case rz75 =>
    refine RG.RunsS.one (v := .agg #[.slice pa n pc, .slice ra r rc, .int .i64 gr, .int .i64 lk, .int .i64 ce, .int .i64 1, .slice (some ⟨bI, 0, none⟩) r r, .slice (some ⟨bC, 0, none⟩) r r, .map (some bM)]) (by rfl) (by rfl) (fun Z hT hS => ?_) ?_
    ·skip
     go_simp
    simp only [Act.put, lpA, lpZ, lpS, lgT, lgZ, lgS]
    exact RG.RunsS.nil
   have N5 := TW.hide (blk_keep HN2.out HTVz74.out)
   have HW1 := TW.hide (setRow_heap _ _ _ #[.slice pa n pc, .slice ra r rc, .int .i64 gr, .int .i64 lk, .int .i64 ce, .int .i64 1, .slice (some ⟨bI, 0, none⟩) r r, .slice (some ⟨bC, 0, none⟩) r r, .map (some bM)] _ _ N5.out)
   have HW2 : Hid ((Vz74.setRow gm #[.slice pa n pc, .slice ra r rc, .int .i64 gr, .int .i64 lk, .int .i64 ce, .int .i64 1, .slice (some ⟨bI, 0, none⟩) r r, .slice (some ⟨bC, 0, none⟩) r r, .map (some bM)]).ownsRow w.heap.size 3 1 (.slice (some ⟨bI, 0, none⟩) r r) r (rwI r (inV []))) := own_keepK HOI.out (fun b hb => setRow_other _ _ _ _ (fun e => by subst e; exact own_neB HOI.out N5.out (by decide) hb))
   have HW3 : Hid ((Vz74.setRow gm #[.slice pa n pc, .slice ra r rc, .int .i64 gr, .int .i64 lk, .int .i64 ce, .int .i64 1, .slice (some ⟨bI, 0, none⟩) r r, .slice (some ⟨bC, 0, none⟩) r r, .map (some bM)]).ownsRow w.heap.size 4 1 (.slice (some ⟨bC, 0, none⟩) r r) r (rwI r (clV []))) := own_keepK HOC.out (fun b hb => setRow_other _ _ _ _ (fun e => by subst e; exact own_neB HOC.out N5.out (by decide) hb))
   have HW4 : Hid (MpI (Vz74.setRow gm #[.slice pa n pc, .slice ra r rc, .int .i64 gr, .int .i64 lk, .int .i64 ce, .int .i64 1, .slice (some ⟨bI, 0, none⟩) r r, .slice (some ⟨bC, 0, none⟩) r r, .map (some bM)]) bM []) := HM.out.keep (setRow_other _ _ _ _ (HM.out.ne N5.out))
   have HW5 : Hid (Below w.heap.size w (Vz74.setRow gm #[.slice pa n pc, .slice ra r rc, .int .i64 gr, .int .i64 lk, .int .i64 ce, .int .i64 1, .slice (some ⟨bI, 0, none⟩) r r, .slice (some ⟨bC, 0, none⟩) r r, .map (some bM)])) := by rw [hgs]; exact below_setRow (HB0.out.trans (HTVz74.out.mono hgsl)) (by omega)
   refine RG.wpL_late (i := 11) (by kernel_rfl) (by rfl) (by rfl) (by kernel_rfl) (fun KX hK => ?_)
   have HK := TW.hide hK
   clear hK
   refine wp_store_row 78 _ _ (by rfl) gm #[.slice pa n pc, .slice ra r rc, .int .i64 gr, .int .i64 lk, .int .i64 ce, .int .i64 1, .slice (some ⟨bI, 0, none⟩) r r, .slice (some ⟨bC, 0, none⟩) r r, .map (some bM)] (by rfl) (by rfl) 78 _ N5.out (by kernel_rfl) (by rfl) (by simp [Value.oneCell']) ?_
   simp only [Act.put, lpA, lpZ, lpS, lgT, lgZ, lgS]
   refine HK.out _ _ trivial ?_
   clear HK KX
   refine RG.wpL_done (by kernel_rfl) ?_ _
   refine NoPanic.normal ?_
   exact HR.out bI bC bM _ HW1.out HW2.out HW3.out HW4.out hbM HW5.out
end LW
end Go.Proofs.Ythgmmggpclmagaa
