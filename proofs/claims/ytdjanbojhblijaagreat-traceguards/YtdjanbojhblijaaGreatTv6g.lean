/-
 The notes of a trace begin.
-/
import Derived.Test.YtdjanbojhblijaaGreatTvAgg
import Derived.Test.YtdjanbojhblijaaGreatOrd3g
import Derived.Test.YtdjanbojhblijaaGreatPairg
import Derived.Test.YtdjanbojhblijaaGreatArgs13g
namespace Go.Proofs.YtdjanbojhblijaaGreat
open List renaming setIfInBounds_toArray → lpA, set_cons_zero → lpZ, set_cons_succ → lpS, getElem_toArray → lgT, getElem_cons_zero → lgZ, getElem_cons_succ → lgS
open Go.RowKit
set_option linter.unusedVariables false
set_option linter.unusedSimpArgs false
namespace LW
open Mc
theorem wp_make_full {P : Program} (w : World) {o : Oper} {a : Act} {K : Act → World → Prop} {Q : Exit → Act → World → Prop}
  (l c : Operand) (t : TypeId) (hop : o.op = Op.makeSlice t l c)
  (base : Nat) (e : TypeId) (i : TypeInfo) (z : Value) (size : Nat) (h1 : P.underlying t = some (.slice e)) (h2 : P.info? e = some i) (h3 : i.zero = some z) (h4 : i.size = size)
  (kl kc : IntKind) (L C : Int) (n : Nat) (hl : a.eval l = .int kl L) (hc : a.eval c = .int kc C) (hL : L = (n : Int)) (hC : C = (n : Int)) (b2 : i.bytes * n ≤ 281474976710656) (b3 : n ≤ maxLen) (b4 : base ≤ w.heap.size)
  (hK : ∀ w', w'.ownsRow base e size (.slice (some ⟨w.heap.size, 0, none⟩) n n) n (madeCells z.cells (n * size)).toList → w.grownBy w' none → K (a.put o.dst (.slice (some ⟨w.heap.size, 0, none⟩) n n)) w') :
  o.wp P a w K Q := by
 obtain ⟨w', hrun, r1, r2⟩ := run_make_full (P := P) w base t e i z size h1 h2 h3 h4 kl kc n b2 b3 b4
 subst hL
 subst hC
 unfold Oper.wp
 simp [execOp, hop, hl, hc, hrun, Result.andThen]
 exact hK w' r1 r2
theorem made_rep (z : Value) (hz : z.cells = #[z]) (n : Nat) : (madeCells z.cells (n * 1)).toList = List.replicate n z := by
 rw [hz]
 simp [madeCells, Nat.mod_one, List.map_const']
theorem boolinfo : (Tryz.prog.info? 4).map (fun i => (i.zero, i.size, i.bytes)) = some (some (.bool false), 1, 1) := by kernel_rfl
theorem wp_makeMap {P : Program} (w : World) {o : Oper} {a : Act} {K : Act → World → Prop} {Q : Exit → Act → World → Prop} (t : TypeId) (hop : o.op = Op.makeMap t none) (hK : K (a.put o.dst (.map (some w.heap.size))) (w.alloc (.map #[] 0))) : o.wp P a w K Q := by
 unfold Oper.wp
 simp [execOp, hop, run_makeMap, Result.andThen]
 exact hK
theorem rep_rw (n : Nat) (f : Nat → Value) (v : Value) (h : ∀ c, f c = v) : List.replicate n v = rwI n f := by
 unfold rwI
 rw [show f = fun _ => v from funext h, List.map_const', List.length_range]
/-- What begin leaves. -/
def BegQ (w : World) (pa : Option Addr) (n pc : Nat) (ra : Option Addr) (r rc : Nat) (gr lk ce : Int) : Ending → World → Prop := fun e w' => ∃ bI bC bm, e = .returned (.agg #[.slice pa n pc, .slice ra r rc, .int .i64 gr, .int .i64 lk, .int .i64 ce, .int .i64 1, .slice (some ⟨bI, 0, none⟩) r r, .slice (some ⟨bC, 0, none⟩) r r, .map (some bm)]) ∧ w'.ownsRow w.heap.size 3 1 (.slice (some ⟨bI, 0, none⟩) r r) r (rwI r (inV [])) ∧ w'.ownsRow w.heap.size 4 1 (.slice (some ⟨bC, 0, none⟩) r r) r (rwI r (clV [])) ∧ MpI w' bm [] ∧ w.heap.size ≤ bm ∧ Below w.heap.size w w'
set_option maxRecDepth 100000 in
set_option maxHeartbeats 4000000 in
theorem pbegin (pa : Option Addr) (n pc : Nat) (ra : Option Addr) (r rc : Nat) (gr lk ce : Int) (w : World) (hr : r ≤ 64) :
  Calls Tryz.prog 15 #[.agg #[.slice pa n pc, .slice ra r rc, .int .i64 gr, .int .i64 lk, .int .i64 ce]] w (BegQ w pa n pc ra r rc gr lk ce) := by
 obtain ⟨POST, hP⟩ : ∃ P : Ending → World → Prop, P = BegQ w pa n pc ra r rc gr lk ce := ⟨_, rfl⟩
 have HPo := TW.hide hP
 rw [← hP]
 clear hP
 have hb0 : Below w.heap.size w ((w.alloc (.cells #[.slice pa n pc, .slice ra r rc, .int .i64 gr, .int .i64 lk, .int .i64 ce] 25)).alloc (.cells #[.slice none 0 0, .slice none 0 0, .int .i64 0, .int .i64 0, .int .i64 0, .int .i64 0, .slice none 0 0, .slice none 0 0, .map none] 55)) := ((Below.refl _ _).alloc (Nat.le_refl _) _).alloc (by simp) _
 have HN1 : Hid (((w.alloc (.cells #[.slice pa n pc, .slice ra r rc, .int .i64 gr, .int .i64 lk, .int .i64 ce] 25)).alloc (.cells #[.slice none 0 0, .slice none 0 0, .int .i64 0, .int .i64 0, .int .i64 0, .int .i64 0, .slice none 0 0, .slice none 0 0, .map none] 55)).heap[w.heap.size]? = some (.cells #[.slice pa n pc, .slice ra r rc, .int .i64 gr, .int .i64 lk, .int .i64 ce] 25 (0, 0))) := blk_alloc (heap_alloc_new w _)
 have HN2 : Hid (((w.alloc (.cells #[.slice pa n pc, .slice ra r rc, .int .i64 gr, .int .i64 lk, .int .i64 ce] 25)).alloc (.cells #[.slice none 0 0, .slice none 0 0, .int .i64 0, .int .i64 0, .int .i64 0, .int .i64 0, .slice none 0 0, .slice none 0 0, .map none] 55)).heap[w.heap.size + 1]? = some (.cells #[.slice none 0 0, .slice none 0 0, .int .i64 0, .int .i64 0, .int .i64 0, .int .i64 0, .slice none 0 0, .slice none 0 0, .map none] 55 (0, 0))) := by
  have h1 := heap_alloc_new (w.alloc (.cells #[.slice pa n pc, .slice ra r rc, .int .i64 gr, .int .i64 lk, .int .i64 ce] 25)) (.cells #[.slice none 0 0, .slice none 0 0, .int .i64 0, .int .i64 0, .int .i64 0, .int .i64 0, .slice none 0 0, .slice none 0 0, .map none] 55)
  have h2 : (w.alloc (.cells #[.slice pa n pc, .slice ra r rc, .int .i64 gr, .int .i64 lk, .int .i64 ce] 25)).heap.size = w.heap.size + 1 := by simp
  rw [h2] at h1
  exact h1
 have HB0 := TW.hide hb0
 clear hb0
 go_enter Tryz.func15, Tryz.ntmps15
 refine wp_seq_k fun K hK => ?_
 have HK := TW.hide hK
 clear hK
 go_wp2
 refine HK.out _ _ ?_
 clear HK K
 generalize World.alloc _ _ = X at *
 have hgsl := HB0.out.size
 have hgmX : w.heap.size + 1 < X.heap.size := blk_lt HN2.out
 generalize hgm : w.heap.size + 1 = gm at *
 generalize hgs : w.heap.size = gs at *
 obtain ⟨s0, s1, s2, s3, s4⟩ := cellsY5 HN1.out
 refine wp_seq_k fun KZ hKZ => ?_
 have HR : Hid (∀ (bI bC bM : Nat) (W : World), W.heap[gm]? = some (.cells #[.slice pa n pc, .slice ra r rc, .int .i64 gr, .int .i64 lk, .int .i64 ce, .int .i64 1, .slice (some ⟨bI, 0, none⟩) r r, .slice (some ⟨bC, 0, none⟩) r r, .map (some bM)] 55 (0, 0)) → W.ownsRow w.heap.size 3 1 (.slice (some ⟨bI, 0, none⟩) r r) r (rwI r (inV [])) → W.ownsRow w.heap.size 4 1 (.slice (some ⟨bC, 0, none⟩) r r) r (rwI r (clV [])) → MpI W bM [] → w.heap.size ≤ bM → Below w.heap.size w W → KZ { tmps := #[.agg #[.slice pa n pc, .slice ra r rc, .int .i64 gr, .int .i64 lk, .int .i64 ce], .pointer (some ⟨gs, 0, none⟩), .pointer (some ⟨gm, 0, none⟩), .agg #[.slice pa n pc, .slice ra r rc, .int .i64 gr, .int .i64 lk, .int .i64 ce], .pointer (some ⟨gs, 1, none⟩), .slice ra r rc, .int .i64 (r : Int), .slice (some ⟨bI, 0, none⟩) r r, .pointer (some ⟨gs, 1, none⟩), .slice ra r rc, .int .i64 (r : Int), .slice (some ⟨bC, 0, none⟩) r r, .map (some bM), .agg #[.slice pa n pc, .slice ra r rc, .int .i64 gr, .int .i64 lk, .int .i64 ce, .int .i64 1, .slice (some ⟨bI, 0, none⟩) r r, .slice (some ⟨bC, 0, none⟩) r r, .map (some bM)]], defers := [] } W) := by
  intro bI bC bM W h1 h2 h3 h4 h5 h6
  refine hKZ _ _ ?_
  clear hKZ KZ
  refine wp_ret ?_
  refine bodyPost_ret (v := .agg #[.slice pa n pc, .slice ra r rc, .int .i64 gr, .int .i64 lk, .int .i64 ce, .int .i64 1, .slice (some ⟨bI, 0, none⟩) r r, .slice (some ⟨bC, 0, none⟩) r r, .map (some bM)]) (results_cell_row (P := Tryz.prog) Tryz.results15 _ _ gm 55 _ (0, 0) _ rfl h1 Tryz.underlying55 rfl (by kernel_rfl)) rfl ?_
  rw [HPo.out]
  exact ⟨bI, bC, bM, rfl, h2, h3, h4, h5, h6⟩
 clear hKZ
 obtain ⟨i3, hi3, hz30, hz31, hz32⟩ := info_parts' intinfo
 obtain ⟨i4, hi4, hz40, hz41, hz42⟩ := info_parts' boolinfo
 have HX : Hid (Below X.heap.size X X) := Below.refl _ _
 refine wp_region_noPanic ?_
 refine RG.wp_region_L (fun Z => Below X.heap.size X Z) (fun Z => True) [11] (by kernel_rfl) ?_
 refine RG.wpL_any fun Yz5 hY => ?_
 have HBz5 : Hid (Below X.heap.size X Yz5) := by rw [hY]; exact below_drewN (Below.refl _ _) 1
 clear hY
 refine RG.wpL_takeS (fuel := 5) (a' := ?Az5) [0, 1, 2, 3, 5, 6, 7] (by kernel_rfl) (by kernel_rfl) (fun _ _ _ _ _ h => h) trivial (HBz5.out) ?rz5 ?_
 case rz5 =>
  refine RG.RunsS.one (v := .agg #[.slice pa n pc, .slice ra r rc, .int .i64 gr, .int .i64 lk, .int .i64 ce]) (by rfl) (by rfl) (fun Z hT hS => ?_) ?_
  ·have y0 := keepC hS s0; have y1 := keepC hS s1; have y2 := keepC hS s2; have y3 := keepC hS s3; have y4 := keepC hS s4
   go_simp
  simp only [Act.put, lpA, lpZ, lpS, lgT, lgZ, lgS]
  refine RG.RunsS.one (v := ?_) (by rfl) (by rfl) (fun Z hT hS => ?_) ?_
  rotate_left
  ·go_simp
   rfl
  simp only [Act.put, lpA, lpZ, lpS, lgT, lgZ, lgS]
  refine RG.RunsS.one (v := .slice ra r rc) (by rfl) (by rfl) (fun Z hT hS => ?_) ?_
  ·have y0 := keepC hS s0; have y1 := keepC hS s1; have y2 := keepC hS s2; have y3 := keepC hS s3; have y4 := keepC hS s4
   go_simp
  simp only [Act.put, lpA, lpZ, lpS, lgT, lgZ, lgS]
  iterate 2
   refine RG.RunsS.one (v := ?_) (by rfl) (by rfl) (fun Z hT hS => ?_) ?_
   rotate_left
   ·go_simp
    rfl
   simp only [Act.put, lpA, lpZ, lpS, lgT, lgZ, lgS]
  refine RG.RunsS.one (v := .slice ra r rc) (by rfl) (by rfl) (fun Z hT hS => ?_) ?_
  ·have y0 := keepC hS s0; have y1 := keepC hS s1; have y2 := keepC hS s2; have y3 := keepC hS s3; have y4 := keepC hS s4
   go_simp
  simp only [Act.put, lpA, lpZ, lpS, lgT, lgZ, lgS]
  refine RG.RunsS.one (v := ?_) (by rfl) (by rfl) (fun Z hT hS => ?_) ?_
  rotate_left
  ·go_simp
   rfl
  simp only [Act.put, lpA, lpZ, lpS, lgT, lgZ, lgS]
  exact RG.RunsS.nil
 have HTz5 := HBz5
 refine RG.wpL_three (i := 4) (j := 8) (l := 9) (by kernel_rfl) (by rfl) (by rfl) (by rfl) (by rfl) (by rfl) (by rfl) (fun KX hK => ?_) (fun KX hK => ?_) (fun KX hK => ?_)
 ·have HK := TW.hide hK
  clear hK
  refine wp_make_full Yz5 _ _ 23 (by rfl) w.heap.size 3 i3 (.int .i64 0) 1 Tryz.underlying23 hi3 hz30 hz31 .i64 .i64 (r : Int) (r : Int) r (by rfl) (by rfl) rfl rfl (by rw [hz32]; omega) (by unfold maxLen; omega) (by have := HTz5.out.size; omega) ?_
  intro Vz6 hown hgrow
  rw [made_rep _ rfl, rep_rw r (inV []) _ (fun c => rfl)] at hown
  have HTVz6 : Hid (Below X.heap.size X Vz6) := HTz5.out.grown hgrow HTz5.out.size (by intro k h; cases h)
  have HOI := TW.hide hown
  refine HK.out _ _ trivial (fun _ => HTVz6.out) ?_
  clear HK KX hown hgrow
  try simp only [Act.put, lpA, lpZ, lpS, lgT, lgZ, lgS]
  generalize hqI : Yz5.heap.size = bI at *
  refine RG.wpL_pair (i := 8) (j := 9) (by kernel_rfl) (by rfl) (by rfl) (by rfl) (by rfl) (fun KX hK => ?_) (fun KX hK => ?_)
  ·have HK := TW.hide hK
   clear hK
   refine wp_make_full Vz6 _ _ 51 (by rfl) w.heap.size 4 i4 (.bool false) 1 Tryz.underlying51 hi4 hz40 hz41 .i64 .i64 (r : Int) (r : Int) r (by rfl) (by rfl) rfl rfl (by rw [hz42]; omega) (by unfold maxLen; omega) (by have := HTVz6.out.size; omega) ?_
   intro Vz7 hown hgrow
   rw [made_rep _ rfl, rep_rw r (clV []) _ (fun c => rfl)] at hown
   have HTVz7 : Hid (Below X.heap.size X Vz7) := HTVz6.out.grown hgrow HTVz6.out.size (by intro k h; cases h)
   have HOI_ := TW.hide (own_keepK HOI.out (fun b hb => (fun hlt => hgrow.block _ hlt (fun h => by cases h)) (own_lt HOI.out b hb)))
   clear HOI
   have HOI := HOI_
   clear HOI_
   have HOC := TW.hide hown
   refine HK.out _ _ trivial (fun _ => HTVz7.out) ?_
   clear HK KX hown hgrow
   try simp only [Act.put, lpA, lpZ, lpS, lgT, lgZ, lgS]
   generalize hqC : Vz6.heap.size = bC at *
   refine RG.wpL_step (i := 9) (by kernel_rfl) (by rfl) (by rfl) (fun KX hK => ?_)
   have HK := TW.hide hK
   clear hK
   have hA : Below Vz7.heap.size Vz7 (Vz7.alloc (.map #[] 0)) := (Below.refl _ _).alloc (Nat.le_refl _) _
   have HOI_ := TW.hide (own_keepK HOI.out (fun b hb => hA.block _ (own_lt HOI.out b hb)))
   clear HOI
   have HOI := HOI_
   clear HOI_
   have HOC_ := TW.hide (own_keepK HOC.out (fun b hb => hA.block _ (own_lt HOC.out b hb)))
   clear HOC
   have HOC := HOC_
   clear HOC_
   have HM := TW.hide (MpI.made Vz7)
   have HTVz8 : Hid (Below X.heap.size X (Vz7.alloc (.map #[] 0))) := HTVz7.out.trans (hA.mono HTVz7.out.size)
   have hbM : w.heap.size ≤ Vz7.heap.size := by have := HTVz7.out.size; omega
   refine wp_makeMap Vz7 53 (by rfl) ?_
   refine HK.out _ _ trivial (fun _ => HTVz8.out) ?_
   clear HK KX hA
   try simp only [Act.put, lpA, lpZ, lpS, lgT, lgZ, lgS]
   generalize Vz7.alloc (.map #[] 0) = Vz8 at *
   generalize hqM : Vz7.heap.size = bM at *
   refine RG.wpL_takeS (fuel := 1) (a' := ?Az9) [10] (by kernel_rfl) (by kernel_rfl) (fun _ _ _ _ _ h => h) trivial (HTVz8.out) ?rz9 ?_
   case rz9 =>
    refine RG.RunsS.one (v := .agg #[.slice pa n pc, .slice ra r rc, .int .i64 gr, .int .i64 lk, .int .i64 ce, .int .i64 1, .slice (some ⟨bI, 0, none⟩) r r, .slice (some ⟨bC, 0, none⟩) r r, .map (some bM)]) (by rfl) (by rfl) (fun Z hT hS => ?_) ?_
    ·skip
     go_simp
    simp only [Act.put, lpA, lpZ, lpS, lgT, lgZ, lgS]
    exact RG.RunsS.nil
   have N5 := TW.hide (blk_keep HN2.out HTVz8.out)
   have HW1 := TW.hide (setRow_heap _ _ _ #[.slice pa n pc, .slice ra r rc, .int .i64 gr, .int .i64 lk, .int .i64 ce, .int .i64 1, .slice (some ⟨bI, 0, none⟩) r r, .slice (some ⟨bC, 0, none⟩) r r, .map (some bM)] _ _ N5.out)
   have HW2 : Hid ((Vz8.setRow gm #[.slice pa n pc, .slice ra r rc, .int .i64 gr, .int .i64 lk, .int .i64 ce, .int .i64 1, .slice (some ⟨bI, 0, none⟩) r r, .slice (some ⟨bC, 0, none⟩) r r, .map (some bM)]).ownsRow w.heap.size 3 1 (.slice (some ⟨bI, 0, none⟩) r r) r (rwI r (inV []))) := own_keepK HOI.out (fun b hb => setRow_other _ _ _ _ (fun e => by subst e; exact own_neB HOI.out N5.out (by decide) hb))
   have HW3 : Hid ((Vz8.setRow gm #[.slice pa n pc, .slice ra r rc, .int .i64 gr, .int .i64 lk, .int .i64 ce, .int .i64 1, .slice (some ⟨bI, 0, none⟩) r r, .slice (some ⟨bC, 0, none⟩) r r, .map (some bM)]).ownsRow w.heap.size 4 1 (.slice (some ⟨bC, 0, none⟩) r r) r (rwI r (clV []))) := own_keepK HOC.out (fun b hb => setRow_other _ _ _ _ (fun e => by subst e; exact own_neB HOC.out N5.out (by decide) hb))
   have HW4 : Hid (MpI (Vz8.setRow gm #[.slice pa n pc, .slice ra r rc, .int .i64 gr, .int .i64 lk, .int .i64 ce, .int .i64 1, .slice (some ⟨bI, 0, none⟩) r r, .slice (some ⟨bC, 0, none⟩) r r, .map (some bM)]) bM []) := HM.out.keep (setRow_other _ _ _ _ (HM.out.ne N5.out))
   have HW5 : Hid (Below w.heap.size w (Vz8.setRow gm #[.slice pa n pc, .slice ra r rc, .int .i64 gr, .int .i64 lk, .int .i64 ce, .int .i64 1, .slice (some ⟨bI, 0, none⟩) r r, .slice (some ⟨bC, 0, none⟩) r r, .map (some bM)])) := by rw [hgs]; exact below_setRow (HB0.out.trans (HTVz8.out.mono hgsl)) (by omega)
   refine RG.wpL_late (i := 11) (by kernel_rfl) (by rfl) (by rfl) (by kernel_rfl) (fun KX hK => ?_)
   have HK := TW.hide hK
   clear hK
   refine wp_store_row 55 _ _ (by rfl) gm #[.slice pa n pc, .slice ra r rc, .int .i64 gr, .int .i64 lk, .int .i64 ce, .int .i64 1, .slice (some ⟨bI, 0, none⟩) r r, .slice (some ⟨bC, 0, none⟩) r r, .map (some bM)] (by rfl) (by rfl) 55 _ N5.out (by kernel_rfl) (by rfl) (by simp [Value.oneCell']) ?_
   simp only [Act.put, lpA, lpZ, lpS, lgT, lgZ, lgS]
   refine HK.out _ _ trivial ?_
   clear HK KX
   refine RG.wpL_done (by kernel_rfl) ?_ _
   refine NoPanic.normal ?_
   exact HR.out bI bC bM _ HW1.out HW2.out HW3.out HW4.out hbM HW5.out
  ·have HK := TW.hide hK
   clear hK
   have hA : Below Vz6.heap.size Vz6 (Vz6.alloc (.map #[] 0)) := (Below.refl _ _).alloc (Nat.le_refl _) _
   have HOI_ := TW.hide (own_keepK HOI.out (fun b hb => hA.block _ (own_lt HOI.out b hb)))
   clear HOI
   have HOI := HOI_
   clear HOI_
   have HM := TW.hide (MpI.made Vz6)
   have HTVz10 : Hid (Below X.heap.size X (Vz6.alloc (.map #[] 0))) := HTVz6.out.trans (hA.mono HTVz6.out.size)
   have hbM : w.heap.size ≤ Vz6.heap.size := by have := HTVz6.out.size; omega
   refine wp_makeMap Vz6 53 (by rfl) ?_
   refine HK.out _ _ trivial (fun _ => HTVz10.out) ?_
   clear HK KX hA
   try simp only [Act.put, lpA, lpZ, lpS, lgT, lgZ, lgS]
   generalize Vz6.alloc (.map #[] 0) = Vz10 at *
   generalize hqM : Vz6.heap.size = bM at *
   refine RG.wpL_step (i := 8) (by kernel_rfl) (by rfl) (by rfl) (fun KX hK => ?_)
   have HK := TW.hide hK
   clear hK
   refine wp_make_full Vz10 _ _ 51 (by rfl) w.heap.size 4 i4 (.bool false) 1 Tryz.underlying51 hi4 hz40 hz41 .i64 .i64 (r : Int) (r : Int) r (by rfl) (by rfl) rfl rfl (by rw [hz42]; omega) (by unfold maxLen; omega) (by have := HTVz10.out.size; omega) ?_
   intro Vz11 hown hgrow
   rw [made_rep _ rfl, rep_rw r (clV []) _ (fun c => rfl)] at hown
   have HTVz11 : Hid (Below X.heap.size X Vz11) := HTVz10.out.grown hgrow HTVz10.out.size (by intro k h; cases h)
   have HOI_ := TW.hide (own_keepK HOI.out (fun b hb => (fun hlt => hgrow.block _ hlt (fun h => by cases h)) (own_lt HOI.out b hb)))
   clear HOI
   have HOI := HOI_
   clear HOI_
   have HM_ := TW.hide (HM.out.keep ((fun hlt => hgrow.block _ hlt (fun h => by cases h)) (HM.out.lt)))
   clear HM
   have HM := HM_
   clear HM_
   have HOC := TW.hide hown
   refine HK.out _ _ trivial (fun _ => HTVz11.out) ?_
   clear HK KX hown hgrow
   try simp only [Act.put, lpA, lpZ, lpS, lgT, lgZ, lgS]
   generalize hqC : Vz10.heap.size = bC at *
   refine RG.wpL_takeS (fuel := 1) (a' := ?Az12) [10] (by kernel_rfl) (by kernel_rfl) (fun _ _ _ _ _ h => h) trivial (HTVz11.out) ?rz12 ?_
   case rz12 =>
    refine RG.RunsS.one (v := .agg #[.slice pa n pc, .slice ra r rc, .int .i64 gr, .int .i64 lk, .int .i64 ce, .int .i64 1, .slice (some ⟨bI, 0, none⟩) r r, .slice (some ⟨bC, 0, none⟩) r r, .map (some bM)]) (by rfl) (by rfl) (fun Z hT hS => ?_) ?_
    ·skip
     go_simp
    simp only [Act.put, lpA, lpZ, lpS, lgT, lgZ, lgS]
    exact RG.RunsS.nil
   have N5 := TW.hide (blk_keep HN2.out HTVz11.out)
   have HW1 := TW.hide (setRow_heap _ _ _ #[.slice pa n pc, .slice ra r rc, .int .i64 gr, .int .i64 lk, .int .i64 ce, .int .i64 1, .slice (some ⟨bI, 0, none⟩) r r, .slice (some ⟨bC, 0, none⟩) r r, .map (some bM)] _ _ N5.out)
   have HW2 : Hid ((Vz11.setRow gm #[.slice pa n pc, .slice ra r rc, .int .i64 gr, .int .i64 lk, .int .i64 ce, .int .i64 1, .slice (some ⟨bI, 0, none⟩) r r, .slice (some ⟨bC, 0, none⟩) r r, .map (some bM)]).ownsRow w.heap.size 3 1 (.slice (some ⟨bI, 0, none⟩) r r) r (rwI r (inV []))) := own_keepK HOI.out (fun b hb => setRow_other _ _ _ _ (fun e => by subst e; exact own_neB HOI.out N5.out (by decide) hb))
   have HW3 : Hid ((Vz11.setRow gm #[.slice pa n pc, .slice ra r rc, .int .i64 gr, .int .i64 lk, .int .i64 ce, .int .i64 1, .slice (some ⟨bI, 0, none⟩) r r, .slice (some ⟨bC, 0, none⟩) r r, .map (some bM)]).ownsRow w.heap.size 4 1 (.slice (some ⟨bC, 0, none⟩) r r) r (rwI r (clV []))) := own_keepK HOC.out (fun b hb => setRow_other _ _ _ _ (fun e => by subst e; exact own_neB HOC.out N5.out (by decide) hb))
   have HW4 : Hid (MpI (Vz11.setRow gm #[.slice pa n pc, .slice ra r rc, .int .i64 gr, .int .i64 lk, .int .i64 ce, .int .i64 1, .slice (some ⟨bI, 0, none⟩) r r, .slice (some ⟨bC, 0, none⟩) r r, .map (some bM)]) bM []) := HM.out.keep (setRow_other _ _ _ _ (HM.out.ne N5.out))
   have HW5 : Hid (Below w.heap.size w (Vz11.setRow gm #[.slice pa n pc, .slice ra r rc, .int .i64 gr, .int .i64 lk, .int .i64 ce, .int .i64 1, .slice (some ⟨bI, 0, none⟩) r r, .slice (some ⟨bC, 0, none⟩) r r, .map (some bM)])) := by rw [hgs]; exact below_setRow (HB0.out.trans (HTVz11.out.mono hgsl)) (by omega)
   refine RG.wpL_late (i := 11) (by kernel_rfl) (by rfl) (by rfl) (by kernel_rfl) (fun KX hK => ?_)
   have HK := TW.hide hK
   clear hK
   refine wp_store_row 55 _ _ (by rfl) gm #[.slice pa n pc, .slice ra r rc, .int .i64 gr, .int .i64 lk, .int .i64 ce, .int .i64 1, .slice (some ⟨bI, 0, none⟩) r r, .slice (some ⟨bC, 0, none⟩) r r, .map (some bM)] (by rfl) (by rfl) 55 _ N5.out (by kernel_rfl) (by rfl) (by simp [Value.oneCell']) ?_
   simp only [Act.put, lpA, lpZ, lpS, lgT, lgZ, lgS]
   refine HK.out _ _ trivial ?_
   clear HK KX
   refine RG.wpL_done (by kernel_rfl) ?_ _
   refine NoPanic.normal ?_
   exact HR.out bI bC bM _ HW1.out HW2.out HW3.out HW4.out hbM HW5.out
 ·have HK := TW.hide hK
  clear hK
  refine wp_make_full Yz5 _ _ 51 (by rfl) w.heap.size 4 i4 (.bool false) 1 Tryz.underlying51 hi4 hz40 hz41 .i64 .i64 (r : Int) (r : Int) r (by rfl) (by rfl) rfl rfl (by rw [hz42]; omega) (by unfold maxLen; omega) (by have := HTz5.out.size; omega) ?_
  intro Vz13 hown hgrow
  rw [made_rep _ rfl, rep_rw r (clV []) _ (fun c => rfl)] at hown
  have HTVz13 : Hid (Below X.heap.size X Vz13) := HTz5.out.grown hgrow HTz5.out.size (by intro k h; cases h)
  have HOC := TW.hide hown
  refine HK.out _ _ trivial (fun _ => HTVz13.out) ?_
  clear HK KX hown hgrow
  try simp only [Act.put, lpA, lpZ, lpS, lgT, lgZ, lgS]
  generalize hqC : Yz5.heap.size = bC at *
  refine RG.wpL_pair (i := 4) (j := 9) (by kernel_rfl) (by rfl) (by rfl) (by rfl) (by rfl) (fun KX hK => ?_) (fun KX hK => ?_)
  ·have HK := TW.hide hK
   clear hK
   refine wp_make_full Vz13 _ _ 23 (by rfl) w.heap.size 3 i3 (.int .i64 0) 1 Tryz.underlying23 hi3 hz30 hz31 .i64 .i64 (r : Int) (r : Int) r (by rfl) (by rfl) rfl rfl (by rw [hz32]; omega) (by unfold maxLen; omega) (by have := HTVz13.out.size; omega) ?_
   intro Vz14 hown hgrow
   rw [made_rep _ rfl, rep_rw r (inV []) _ (fun c => rfl)] at hown
   have HTVz14 : Hid (Below X.heap.size X Vz14) := HTVz13.out.grown hgrow HTVz13.out.size (by intro k h; cases h)
   have HOC_ := TW.hide (own_keepK HOC.out (fun b hb => (fun hlt => hgrow.block _ hlt (fun h => by cases h)) (own_lt HOC.out b hb)))
   clear HOC
   have HOC := HOC_
   clear HOC_
   have HOI := TW.hide hown
   refine HK.out _ _ trivial (fun _ => HTVz14.out) ?_
   clear HK KX hown hgrow
   try simp only [Act.put, lpA, lpZ, lpS, lgT, lgZ, lgS]
   generalize hqI : Vz13.heap.size = bI at *
   refine RG.wpL_step (i := 9) (by kernel_rfl) (by rfl) (by rfl) (fun KX hK => ?_)
   have HK := TW.hide hK
   clear hK
   have hA : Below Vz14.heap.size Vz14 (Vz14.alloc (.map #[] 0)) := (Below.refl _ _).alloc (Nat.le_refl _) _
   have HOC_ := TW.hide (own_keepK HOC.out (fun b hb => hA.block _ (own_lt HOC.out b hb)))
   clear HOC
   have HOC := HOC_
   clear HOC_
   have HOI_ := TW.hide (own_keepK HOI.out (fun b hb => hA.block _ (own_lt HOI.out b hb)))
   clear HOI
   have HOI := HOI_
   clear HOI_
   have HM := TW.hide (MpI.made Vz14)
   have HTVz15 : Hid (Below X.heap.size X (Vz14.alloc (.map #[] 0))) := HTVz14.out.trans (hA.mono HTVz14.out.size)
   have hbM : w.heap.size ≤ Vz14.heap.size := by have := HTVz14.out.size; omega
   refine wp_makeMap Vz14 53 (by rfl) ?_
   refine HK.out _ _ trivial (fun _ => HTVz15.out) ?_
   clear HK KX hA
   try simp only [Act.put, lpA, lpZ, lpS, lgT, lgZ, lgS]
   generalize Vz14.alloc (.map #[] 0) = Vz15 at *
   generalize hqM : Vz14.heap.size = bM at *
   refine RG.wpL_takeS (fuel := 1) (a' := ?Az16) [10] (by kernel_rfl) (by kernel_rfl) (fun _ _ _ _ _ h => h) trivial (HTVz15.out) ?rz16 ?_
   case rz16 =>
    refine RG.RunsS.one (v := .agg #[.slice pa n pc, .slice ra r rc, .int .i64 gr, .int .i64 lk, .int .i64 ce, .int .i64 1, .slice (some ⟨bI, 0, none⟩) r r, .slice (some ⟨bC, 0, none⟩) r r, .map (some bM)]) (by rfl) (by rfl) (fun Z hT hS => ?_) ?_
    ·skip
     go_simp
    simp only [Act.put, lpA, lpZ, lpS, lgT, lgZ, lgS]
    exact RG.RunsS.nil
   have N5 := TW.hide (blk_keep HN2.out HTVz15.out)
   have HW1 := TW.hide (setRow_heap _ _ _ #[.slice pa n pc, .slice ra r rc, .int .i64 gr, .int .i64 lk, .int .i64 ce, .int .i64 1, .slice (some ⟨bI, 0, none⟩) r r, .slice (some ⟨bC, 0, none⟩) r r, .map (some bM)] _ _ N5.out)
   have HW2 : Hid ((Vz15.setRow gm #[.slice pa n pc, .slice ra r rc, .int .i64 gr, .int .i64 lk, .int .i64 ce, .int .i64 1, .slice (some ⟨bI, 0, none⟩) r r, .slice (some ⟨bC, 0, none⟩) r r, .map (some bM)]).ownsRow w.heap.size 3 1 (.slice (some ⟨bI, 0, none⟩) r r) r (rwI r (inV []))) := own_keepK HOI.out (fun b hb => setRow_other _ _ _ _ (fun e => by subst e; exact own_neB HOI.out N5.out (by decide) hb))
   have HW3 : Hid ((Vz15.setRow gm #[.slice pa n pc, .slice ra r rc, .int .i64 gr, .int .i64 lk, .int .i64 ce, .int .i64 1, .slice (some ⟨bI, 0, none⟩) r r, .slice (some ⟨bC, 0, none⟩) r r, .map (some bM)]).ownsRow w.heap.size 4 1 (.slice (some ⟨bC, 0, none⟩) r r) r (rwI r (clV []))) := own_keepK HOC.out (fun b hb => setRow_other _ _ _ _ (fun e => by subst e; exact own_neB HOC.out N5.out (by decide) hb))
   have HW4 : Hid (MpI (Vz15.setRow gm #[.slice pa n pc, .slice ra r rc, .int .i64 gr, .int .i64 lk, .int .i64 ce, .int .i64 1, .slice (some ⟨bI, 0, none⟩) r r, .slice (some ⟨bC, 0, none⟩) r r, .map (some bM)]) bM []) := HM.out.keep (setRow_other _ _ _ _ (HM.out.ne N5.out))
   have HW5 : Hid (Below w.heap.size w (Vz15.setRow gm #[.slice pa n pc, .slice ra r rc, .int .i64 gr, .int .i64 lk, .int .i64 ce, .int .i64 1, .slice (some ⟨bI, 0, none⟩) r r, .slice (some ⟨bC, 0, none⟩) r r, .map (some bM)])) := by rw [hgs]; exact below_setRow (HB0.out.trans (HTVz15.out.mono hgsl)) (by omega)
   refine RG.wpL_late (i := 11) (by kernel_rfl) (by rfl) (by rfl) (by kernel_rfl) (fun KX hK => ?_)
   have HK := TW.hide hK
   clear hK
   refine wp_store_row 55 _ _ (by rfl) gm #[.slice pa n pc, .slice ra r rc, .int .i64 gr, .int .i64 lk, .int .i64 ce, .int .i64 1, .slice (some ⟨bI, 0, none⟩) r r, .slice (some ⟨bC, 0, none⟩) r r, .map (some bM)] (by rfl) (by rfl) 55 _ N5.out (by kernel_rfl) (by rfl) (by simp [Value.oneCell']) ?_
   simp only [Act.put, lpA, lpZ, lpS, lgT, lgZ, lgS]
   refine HK.out _ _ trivial ?_
   clear HK KX
   refine RG.wpL_done (by kernel_rfl) ?_ _
   refine NoPanic.normal ?_
   exact HR.out bI bC bM _ HW1.out HW2.out HW3.out HW4.out hbM HW5.out
  ·have HK := TW.hide hK
   clear hK
   have hA : Below Vz13.heap.size Vz13 (Vz13.alloc (.map #[] 0)) := (Below.refl _ _).alloc (Nat.le_refl _) _
   have HOC_ := TW.hide (own_keepK HOC.out (fun b hb => hA.block _ (own_lt HOC.out b hb)))
   clear HOC
   have HOC := HOC_
   clear HOC_
   have HM := TW.hide (MpI.made Vz13)
   have HTVz17 : Hid (Below X.heap.size X (Vz13.alloc (.map #[] 0))) := HTVz13.out.trans (hA.mono HTVz13.out.size)
   have hbM : w.heap.size ≤ Vz13.heap.size := by have := HTVz13.out.size; omega
   refine wp_makeMap Vz13 53 (by rfl) ?_
   refine HK.out _ _ trivial (fun _ => HTVz17.out) ?_
   clear HK KX hA
   try simp only [Act.put, lpA, lpZ, lpS, lgT, lgZ, lgS]
   generalize Vz13.alloc (.map #[] 0) = Vz17 at *
   generalize hqM : Vz13.heap.size = bM at *
   refine RG.wpL_step (i := 4) (by kernel_rfl) (by rfl) (by rfl) (fun KX hK => ?_)
   have HK := TW.hide hK
   clear hK
   refine wp_make_full Vz17 _ _ 23 (by rfl) w.heap.size 3 i3 (.int .i64 0) 1 Tryz.underlying23 hi3 hz30 hz31 .i64 .i64 (r : Int) (r : Int) r (by rfl) (by rfl) rfl rfl (by rw [hz32]; omega) (by unfold maxLen; omega) (by have := HTVz17.out.size; omega) ?_
   intro Vz18 hown hgrow
   rw [made_rep _ rfl, rep_rw r (inV []) _ (fun c => rfl)] at hown
   have HTVz18 : Hid (Below X.heap.size X Vz18) := HTVz17.out.grown hgrow HTVz17.out.size (by intro k h; cases h)
   have HOC_ := TW.hide (own_keepK HOC.out (fun b hb => (fun hlt => hgrow.block _ hlt (fun h => by cases h)) (own_lt HOC.out b hb)))
   clear HOC
   have HOC := HOC_
   clear HOC_
   have HM_ := TW.hide (HM.out.keep ((fun hlt => hgrow.block _ hlt (fun h => by cases h)) (HM.out.lt)))
   clear HM
   have HM := HM_
   clear HM_
   have HOI := TW.hide hown
   refine HK.out _ _ trivial (fun _ => HTVz18.out) ?_
   clear HK KX hown hgrow
   try simp only [Act.put, lpA, lpZ, lpS, lgT, lgZ, lgS]
   generalize hqI : Vz17.heap.size = bI at *
   refine RG.wpL_takeS (fuel := 1) (a' := ?Az19) [10] (by kernel_rfl) (by kernel_rfl) (fun _ _ _ _ _ h => h) trivial (HTVz18.out) ?rz19 ?_
   case rz19 =>
    refine RG.RunsS.one (v := .agg #[.slice pa n pc, .slice ra r rc, .int .i64 gr, .int .i64 lk, .int .i64 ce, .int .i64 1, .slice (some ⟨bI, 0, none⟩) r r, .slice (some ⟨bC, 0, none⟩) r r, .map (some bM)]) (by rfl) (by rfl) (fun Z hT hS => ?_) ?_
    ·skip
     go_simp
    simp only [Act.put, lpA, lpZ, lpS, lgT, lgZ, lgS]
    exact RG.RunsS.nil
   have N5 := TW.hide (blk_keep HN2.out HTVz18.out)
   have HW1 := TW.hide (setRow_heap _ _ _ #[.slice pa n pc, .slice ra r rc, .int .i64 gr, .int .i64 lk, .int .i64 ce, .int .i64 1, .slice (some ⟨bI, 0, none⟩) r r, .slice (some ⟨bC, 0, none⟩) r r, .map (some bM)] _ _ N5.out)
   have HW2 : Hid ((Vz18.setRow gm #[.slice pa n pc, .slice ra r rc, .int .i64 gr, .int .i64 lk, .int .i64 ce, .int .i64 1, .slice (some ⟨bI, 0, none⟩) r r, .slice (some ⟨bC, 0, none⟩) r r, .map (some bM)]).ownsRow w.heap.size 3 1 (.slice (some ⟨bI, 0, none⟩) r r) r (rwI r (inV []))) := own_keepK HOI.out (fun b hb => setRow_other _ _ _ _ (fun e => by subst e; exact own_neB HOI.out N5.out (by decide) hb))
   have HW3 : Hid ((Vz18.setRow gm #[.slice pa n pc, .slice ra r rc, .int .i64 gr, .int .i64 lk, .int .i64 ce, .int .i64 1, .slice (some ⟨bI, 0, none⟩) r r, .slice (some ⟨bC, 0, none⟩) r r, .map (some bM)]).ownsRow w.heap.size 4 1 (.slice (some ⟨bC, 0, none⟩) r r) r (rwI r (clV []))) := own_keepK HOC.out (fun b hb => setRow_other _ _ _ _ (fun e => by subst e; exact own_neB HOC.out N5.out (by decide) hb))
   have HW4 : Hid (MpI (Vz18.setRow gm #[.slice pa n pc, .slice ra r rc, .int .i64 gr, .int .i64 lk, .int .i64 ce, .int .i64 1, .slice (some ⟨bI, 0, none⟩) r r, .slice (some ⟨bC, 0, none⟩) r r, .map (some bM)]) bM []) := HM.out.keep (setRow_other _ _ _ _ (HM.out.ne N5.out))
   have HW5 : Hid (Below w.heap.size w (Vz18.setRow gm #[.slice pa n pc, .slice ra r rc, .int .i64 gr, .int .i64 lk, .int .i64 ce, .int .i64 1, .slice (some ⟨bI, 0, none⟩) r r, .slice (some ⟨bC, 0, none⟩) r r, .map (some bM)])) := by rw [hgs]; exact below_setRow (HB0.out.trans (HTVz18.out.mono hgsl)) (by omega)
   refine RG.wpL_late (i := 11) (by kernel_rfl) (by rfl) (by rfl) (by kernel_rfl) (fun KX hK => ?_)
   have HK := TW.hide hK
   clear hK
   refine wp_store_row 55 _ _ (by rfl) gm #[.slice pa n pc, .slice ra r rc, .int .i64 gr, .int .i64 lk, .int .i64 ce, .int .i64 1, .slice (some ⟨bI, 0, none⟩) r r, .slice (some ⟨bC, 0, none⟩) r r, .map (some bM)] (by rfl) (by rfl) 55 _ N5.out (by kernel_rfl) (by rfl) (by simp [Value.oneCell']) ?_
   simp only [Act.put, lpA, lpZ, lpS, lgT, lgZ, lgS]
   refine HK.out _ _ trivial ?_
   clear HK KX
   refine RG.wpL_done (by kernel_rfl) ?_ _
   refine NoPanic.normal ?_
   exact HR.out bI bC bM _ HW1.out HW2.out HW3.out HW4.out hbM HW5.out
 ·have HK := TW.hide hK
  clear hK
  have hA : Below Yz5.heap.size Yz5 (Yz5.alloc (.map #[] 0)) := (Below.refl _ _).alloc (Nat.le_refl _) _
  have HM := TW.hide (MpI.made Yz5)
  have HTVz20 : Hid (Below X.heap.size X (Yz5.alloc (.map #[] 0))) := HTz5.out.trans (hA.mono HTz5.out.size)
  have hbM : w.heap.size ≤ Yz5.heap.size := by have := HTz5.out.size; omega
  refine wp_makeMap Yz5 53 (by rfl) ?_
  refine HK.out _ _ trivial (fun _ => HTVz20.out) ?_
  clear HK KX hA
  try simp only [Act.put, lpA, lpZ, lpS, lgT, lgZ, lgS]
  generalize Yz5.alloc (.map #[] 0) = Vz20 at *
  generalize hqM : Yz5.heap.size = bM at *
  refine RG.wpL_pair (i := 4) (j := 8) (by kernel_rfl) (by rfl) (by rfl) (by rfl) (by rfl) (fun KX hK => ?_) (fun KX hK => ?_)
  ·have HK := TW.hide hK
   clear hK
   refine wp_make_full Vz20 _ _ 23 (by rfl) w.heap.size 3 i3 (.int .i64 0) 1 Tryz.underlying23 hi3 hz30 hz31 .i64 .i64 (r : Int) (r : Int) r (by rfl) (by rfl) rfl rfl (by rw [hz32]; omega) (by unfold maxLen; omega) (by have := HTVz20.out.size; omega) ?_
   intro Vz21 hown hgrow
   rw [made_rep _ rfl, rep_rw r (inV []) _ (fun c => rfl)] at hown
   have HTVz21 : Hid (Below X.heap.size X Vz21) := HTVz20.out.grown hgrow HTVz20.out.size (by intro k h; cases h)
   have HM_ := TW.hide (HM.out.keep ((fun hlt => hgrow.block _ hlt (fun h => by cases h)) (HM.out.lt)))
   clear HM
   have HM := HM_
   clear HM_
   have HOI := TW.hide hown
   refine HK.out _ _ trivial (fun _ => HTVz21.out) ?_
   clear HK KX hown hgrow
   try simp only [Act.put, lpA, lpZ, lpS, lgT, lgZ, lgS]
   generalize hqI : Vz20.heap.size = bI at *
   refine RG.wpL_step (i := 8) (by kernel_rfl) (by rfl) (by rfl) (fun KX hK => ?_)
   have HK := TW.hide hK
   clear hK
   refine wp_make_full Vz21 _ _ 51 (by rfl) w.heap.size 4 i4 (.bool false) 1 Tryz.underlying51 hi4 hz40 hz41 .i64 .i64 (r : Int) (r : Int) r (by rfl) (by rfl) rfl rfl (by rw [hz42]; omega) (by unfold maxLen; omega) (by have := HTVz21.out.size; omega) ?_
   intro Vz22 hown hgrow
   rw [made_rep _ rfl, rep_rw r (clV []) _ (fun c => rfl)] at hown
   have HTVz22 : Hid (Below X.heap.size X Vz22) := HTVz21.out.grown hgrow HTVz21.out.size (by intro k h; cases h)
   have HM_ := TW.hide (HM.out.keep ((fun hlt => hgrow.block _ hlt (fun h => by cases h)) (HM.out.lt)))
   clear HM
   have HM := HM_
   clear HM_
   have HOI_ := TW.hide (own_keepK HOI.out (fun b hb => (fun hlt => hgrow.block _ hlt (fun h => by cases h)) (own_lt HOI.out b hb)))
   clear HOI
   have HOI := HOI_
   clear HOI_
   have HOC := TW.hide hown
   refine HK.out _ _ trivial (fun _ => HTVz22.out) ?_
   clear HK KX hown hgrow
   try simp only [Act.put, lpA, lpZ, lpS, lgT, lgZ, lgS]
   generalize hqC : Vz21.heap.size = bC at *
   refine RG.wpL_takeS (fuel := 1) (a' := ?Az23) [10] (by kernel_rfl) (by kernel_rfl) (fun _ _ _ _ _ h => h) trivial (HTVz22.out) ?rz23 ?_
   case rz23 =>
    refine RG.RunsS.one (v := .agg #[.slice pa n pc, .slice ra r rc, .int .i64 gr, .int .i64 lk, .int .i64 ce, .int .i64 1, .slice (some ⟨bI, 0, none⟩) r r, .slice (some ⟨bC, 0, none⟩) r r, .map (some bM)]) (by rfl) (by rfl) (fun Z hT hS => ?_) ?_
    ·skip
     go_simp
    simp only [Act.put, lpA, lpZ, lpS, lgT, lgZ, lgS]
    exact RG.RunsS.nil
   have N5 := TW.hide (blk_keep HN2.out HTVz22.out)
   have HW1 := TW.hide (setRow_heap _ _ _ #[.slice pa n pc, .slice ra r rc, .int .i64 gr, .int .i64 lk, .int .i64 ce, .int .i64 1, .slice (some ⟨bI, 0, none⟩) r r, .slice (some ⟨bC, 0, none⟩) r r, .map (some bM)] _ _ N5.out)
   have HW2 : Hid ((Vz22.setRow gm #[.slice pa n pc, .slice ra r rc, .int .i64 gr, .int .i64 lk, .int .i64 ce, .int .i64 1, .slice (some ⟨bI, 0, none⟩) r r, .slice (some ⟨bC, 0, none⟩) r r, .map (some bM)]).ownsRow w.heap.size 3 1 (.slice (some ⟨bI, 0, none⟩) r r) r (rwI r (inV []))) := own_keepK HOI.out (fun b hb => setRow_other _ _ _ _ (fun e => by subst e; exact own_neB HOI.out N5.out (by decide) hb))
   have HW3 : Hid ((Vz22.setRow gm #[.slice pa n pc, .slice ra r rc, .int .i64 gr, .int .i64 lk, .int .i64 ce, .int .i64 1, .slice (some ⟨bI, 0, none⟩) r r, .slice (some ⟨bC, 0, none⟩) r r, .map (some bM)]).ownsRow w.heap.size 4 1 (.slice (some ⟨bC, 0, none⟩) r r) r (rwI r (clV []))) := own_keepK HOC.out (fun b hb => setRow_other _ _ _ _ (fun e => by subst e; exact own_neB HOC.out N5.out (by decide) hb))
   have HW4 : Hid (MpI (Vz22.setRow gm #[.slice pa n pc, .slice ra r rc, .int .i64 gr, .int .i64 lk, .int .i64 ce, .int .i64 1, .slice (some ⟨bI, 0, none⟩) r r, .slice (some ⟨bC, 0, none⟩) r r, .map (some bM)]) bM []) := HM.out.keep (setRow_other _ _ _ _ (HM.out.ne N5.out))
   have HW5 : Hid (Below w.heap.size w (Vz22.setRow gm #[.slice pa n pc, .slice ra r rc, .int .i64 gr, .int .i64 lk, .int .i64 ce, .int .i64 1, .slice (some ⟨bI, 0, none⟩) r r, .slice (some ⟨bC, 0, none⟩) r r, .map (some bM)])) := by rw [hgs]; exact below_setRow (HB0.out.trans (HTVz22.out.mono hgsl)) (by omega)
   refine RG.wpL_late (i := 11) (by kernel_rfl) (by rfl) (by rfl) (by kernel_rfl) (fun KX hK => ?_)
   have HK := TW.hide hK
   clear hK
   refine wp_store_row 55 _ _ (by rfl) gm #[.slice pa n pc, .slice ra r rc, .int .i64 gr, .int .i64 lk, .int .i64 ce, .int .i64 1, .slice (some ⟨bI, 0, none⟩) r r, .slice (some ⟨bC, 0, none⟩) r r, .map (some bM)] (by rfl) (by rfl) 55 _ N5.out (by kernel_rfl) (by rfl) (by simp [Value.oneCell']) ?_
   simp only [Act.put, lpA, lpZ, lpS, lgT, lgZ, lgS]
   refine HK.out _ _ trivial ?_
   clear HK KX
   refine RG.wpL_done (by kernel_rfl) ?_ _
   refine NoPanic.normal ?_
   exact HR.out bI bC bM _ HW1.out HW2.out HW3.out HW4.out hbM HW5.out
  ·have HK := TW.hide hK
   clear hK
   refine wp_make_full Vz20 _ _ 51 (by rfl) w.heap.size 4 i4 (.bool false) 1 Tryz.underlying51 hi4 hz40 hz41 .i64 .i64 (r : Int) (r : Int) r (by rfl) (by rfl) rfl rfl (by rw [hz42]; omega) (by unfold maxLen; omega) (by have := HTVz20.out.size; omega) ?_
   intro Vz24 hown hgrow
   rw [made_rep _ rfl, rep_rw r (clV []) _ (fun c => rfl)] at hown
   have HTVz24 : Hid (Below X.heap.size X Vz24) := HTVz20.out.grown hgrow HTVz20.out.size (by intro k h; cases h)
   have HM_ := TW.hide (HM.out.keep ((fun hlt => hgrow.block _ hlt (fun h => by cases h)) (HM.out.lt)))
   clear HM
   have HM := HM_
   clear HM_
   have HOC := TW.hide hown
   refine HK.out _ _ trivial (fun _ => HTVz24.out) ?_
   clear HK KX hown hgrow
   try simp only [Act.put, lpA, lpZ, lpS, lgT, lgZ, lgS]
   generalize hqC : Vz20.heap.size = bC at *
   refine RG.wpL_step (i := 4) (by kernel_rfl) (by rfl) (by rfl) (fun KX hK => ?_)
   have HK := TW.hide hK
   clear hK
   refine wp_make_full Vz24 _ _ 23 (by rfl) w.heap.size 3 i3 (.int .i64 0) 1 Tryz.underlying23 hi3 hz30 hz31 .i64 .i64 (r : Int) (r : Int) r (by rfl) (by rfl) rfl rfl (by rw [hz32]; omega) (by unfold maxLen; omega) (by have := HTVz24.out.size; omega) ?_
   intro Vz25 hown hgrow
   rw [made_rep _ rfl, rep_rw r (inV []) _ (fun c => rfl)] at hown
   have HTVz25 : Hid (Below X.heap.size X Vz25) := HTVz24.out.grown hgrow HTVz24.out.size (by intro k h; cases h)
   have HM_ := TW.hide (HM.out.keep ((fun hlt => hgrow.block _ hlt (fun h => by cases h)) (HM.out.lt)))
   clear HM
   have HM := HM_
   clear HM_
   have HOC_ := TW.hide (own_keepK HOC.out (fun b hb => (fun hlt => hgrow.block _ hlt (fun h => by cases h)) (own_lt HOC.out b hb)))
   clear HOC
   have HOC := HOC_
   clear HOC_
   have HOI := TW.hide hown
   refine HK.out _ _ trivial (fun _ => HTVz25.out) ?_
   clear HK KX hown hgrow
   try simp only [Act.put, lpA, lpZ, lpS, lgT, lgZ, lgS]
   generalize hqI : Vz24.heap.size = bI at *
   refine RG.wpL_takeS (fuel := 1) (a' := ?Az26) [10] (by kernel_rfl) (by kernel_rfl) (fun _ _ _ _ _ h => h) trivial (HTVz25.out) ?rz26 ?_
   case rz26 =>
    refine RG.RunsS.one (v := .agg #[.slice pa n pc, .slice ra r rc, .int .i64 gr, .int .i64 lk, .int .i64 ce, .int .i64 1, .slice (some ⟨bI, 0, none⟩) r r, .slice (some ⟨bC, 0, none⟩) r r, .map (some bM)]) (by rfl) (by rfl) (fun Z hT hS => ?_) ?_
    ·skip
     go_simp
    simp only [Act.put, lpA, lpZ, lpS, lgT, lgZ, lgS]
    exact RG.RunsS.nil
   have N5 := TW.hide (blk_keep HN2.out HTVz25.out)
   have HW1 := TW.hide (setRow_heap _ _ _ #[.slice pa n pc, .slice ra r rc, .int .i64 gr, .int .i64 lk, .int .i64 ce, .int .i64 1, .slice (some ⟨bI, 0, none⟩) r r, .slice (some ⟨bC, 0, none⟩) r r, .map (some bM)] _ _ N5.out)
   have HW2 : Hid ((Vz25.setRow gm #[.slice pa n pc, .slice ra r rc, .int .i64 gr, .int .i64 lk, .int .i64 ce, .int .i64 1, .slice (some ⟨bI, 0, none⟩) r r, .slice (some ⟨bC, 0, none⟩) r r, .map (some bM)]).ownsRow w.heap.size 3 1 (.slice (some ⟨bI, 0, none⟩) r r) r (rwI r (inV []))) := own_keepK HOI.out (fun b hb => setRow_other _ _ _ _ (fun e => by subst e; exact own_neB HOI.out N5.out (by decide) hb))
   have HW3 : Hid ((Vz25.setRow gm #[.slice pa n pc, .slice ra r rc, .int .i64 gr, .int .i64 lk, .int .i64 ce, .int .i64 1, .slice (some ⟨bI, 0, none⟩) r r, .slice (some ⟨bC, 0, none⟩) r r, .map (some bM)]).ownsRow w.heap.size 4 1 (.slice (some ⟨bC, 0, none⟩) r r) r (rwI r (clV []))) := own_keepK HOC.out (fun b hb => setRow_other _ _ _ _ (fun e => by subst e; exact own_neB HOC.out N5.out (by decide) hb))
   have HW4 : Hid (MpI (Vz25.setRow gm #[.slice pa n pc, .slice ra r rc, .int .i64 gr, .int .i64 lk, .int .i64 ce, .int .i64 1, .slice (some ⟨bI, 0, none⟩) r r, .slice (some ⟨bC, 0, none⟩) r r, .map (some bM)]) bM []) := HM.out.keep (setRow_other _ _ _ _ (HM.out.ne N5.out))
   have HW5 : Hid (Below w.heap.size w (Vz25.setRow gm #[.slice pa n pc, .slice ra r rc, .int .i64 gr, .int .i64 lk, .int .i64 ce, .int .i64 1, .slice (some ⟨bI, 0, none⟩) r r, .slice (some ⟨bC, 0, none⟩) r r, .map (some bM)])) := by rw [hgs]; exact below_setRow (HB0.out.trans (HTVz25.out.mono hgsl)) (by omega)
   refine RG.wpL_late (i := 11) (by kernel_rfl) (by rfl) (by rfl) (by kernel_rfl) (fun KX hK => ?_)
   have HK := TW.hide hK
   clear hK
   refine wp_store_row 55 _ _ (by rfl) gm #[.slice pa n pc, .slice ra r rc, .int .i64 gr, .int .i64 lk, .int .i64 ce, .int .i64 1, .slice (some ⟨bI, 0, none⟩) r r, .slice (some ⟨bC, 0, none⟩) r r, .map (some bM)] (by rfl) (by rfl) 55 _ N5.out (by kernel_rfl) (by rfl) (by simp [Value.oneCell']) ?_
   simp only [Act.put, lpA, lpZ, lpS, lgT, lgZ, lgS]
   refine HK.out _ _ trivial ?_
   clear HK KX
   refine RG.wpL_done (by kernel_rfl) ?_ _
   refine NoPanic.normal ?_
   exact HR.out bI bC bM _ HW1.out HW2.out HW3.out HW4.out hbM HW5.out
end LW
end Go.Proofs.YtdjanbojhblijaaGreat
