/-
 The notes of a trace begin.
-/
import Derived.Test.YtfbnakmmmphedaaPgJo
import Derived.Test.YtfbnakmmmphedaaTvAgo
import Derived.Test.YtfbnakmmmphedaaOrd3o
import Derived.Test.YtfbnakmmmphedaaPairo
import Derived.Test.YtfbnakmmmphedaaArgs13o
set_option linter.unusedVariables false
set_option linter.unusedSimpArgs false
namespace Go.Proofs.Ytfbnakmmmphedaa
open Go.RowKit
namespace LW
open Mc
theorem wp_makeMap {P : Program} (w : World) {o : Oper} {a : Act} {K : Act → World → Prop} {Q : Exit → Act → World → Prop} (t : TypeId) (hop : o.op = Op.makeMap t none) (hK : K (a.put o.dst (.map (some w.heap.size))) (w.alloc (.map #[] 0))) : o.wp P a w K Q:=by
 unfold Oper.wp
 simp [execOp,hop,run_makeMap,Result.andThen]
 exact hK
theorem rep_rw (n : Nat) (f : Nat → Value) (v : Value) (h : ∀ c,f c = v) : List.replicate n v = rwI n f:=by
 unfold rwI
 rw [show f = fun _ => v from funext h,List.map_const',List.length_range]
def BegQ (w : World) (pa : Option Addr) (n pc : Nat) (ra : Option Addr) (r rc : Nat) (gr lk ce : Int) : Ending → World → Prop:=fun e w' => ∃ bI bC bm,e = .returned (.agg #[.slice pa n pc,.slice ra r rc,.int .i64 gr,.int .i64 lk,.int .i64 ce,.int .i64 1,.slice (some ⟨bI,0,none⟩) r r,.slice (some ⟨bC,0,none⟩) r r,.map (some bm)]) ∧ w'.ownsRow w.heap.size 3 1 (.slice (some ⟨bI,0,none⟩) r r) r (rwI r (inV [])) ∧ w'.ownsRow w.heap.size 4 1 (.slice (some ⟨bC,0,none⟩) r r) r (rwI r (clV [])) ∧ MpI w' bm [] ∧ w.heap.size ≤ bm ∧ Below w.heap.size w w'
set_option maxRecDepth 100000 in
set_option maxHeartbeats 4000000 in
theorem pbegin (pa : Option Addr) (n pc : Nat) (ra : Option Addr) (r rc : Nat) (gr lk ce : Int) (w : World) (hr : r ≤ 64) :
  Calls Try.prog 30 #[.agg #[.slice pa n pc,.slice ra r rc,.int .i64 gr,.int .i64 lk,.int .i64 ce]] w (BegQ w pa n pc ra r rc gr lk ce):=by
 obtain ⟨POST,hP⟩ : ∃ P : Ending → World → Prop,P = BegQ w pa n pc ra r rc gr lk ce:=⟨_,rfl⟩
 have HPo:=ζ hP
 rw [← hP]
 clear hP
 have hb0 : Below w.heap.size w ((w.alloc (.cells #[.slice pa n pc,.slice ra r rc,.int .i64 gr,.int .i64 lk,.int .i64 ce] 30)).alloc (.cells #[.slice none 0 0,.slice none 0 0,.int .i64 0,.int .i64 0,.int .i64 0,.int .i64 0,.slice none 0 0,.slice none 0 0,.map none] 85)):=((Below.refl _ _).alloc (Nat.le_refl _) _).alloc (by simp) _
 have HN1 : Hid (((w.alloc (.cells #[.slice pa n pc,.slice ra r rc,.int .i64 gr,.int .i64 lk,.int .i64 ce] 30)).alloc (.cells #[.slice none 0 0,.slice none 0 0,.int .i64 0,.int .i64 0,.int .i64 0,.int .i64 0,.slice none 0 0,.slice none 0 0,.map none] 85)).heap[w.heap.size]? = some (.cells #[.slice pa n pc,.slice ra r rc,.int .i64 gr,.int .i64 lk,.int .i64 ce] 30 (0,0))):=blk_alloc (heap_alloc_new w _)
 have HN2 : Hid (((w.alloc (.cells #[.slice pa n pc,.slice ra r rc,.int .i64 gr,.int .i64 lk,.int .i64 ce] 30)).alloc (.cells #[.slice none 0 0,.slice none 0 0,.int .i64 0,.int .i64 0,.int .i64 0,.int .i64 0,.slice none 0 0,.slice none 0 0,.map none] 85)).heap[w.heap.size + 1]? = some (.cells #[.slice none 0 0,.slice none 0 0,.int .i64 0,.int .i64 0,.int .i64 0,.int .i64 0,.slice none 0 0,.slice none 0 0,.map none] 85 (0,0))):=by
  have h1:=heap_alloc_new (w.alloc (.cells #[.slice pa n pc,.slice ra r rc,.int .i64 gr,.int .i64 lk,.int .i64 ce] 30)) (.cells #[.slice none 0 0,.slice none 0 0,.int .i64 0,.int .i64 0,.int .i64 0,.int .i64 0,.slice none 0 0,.slice none 0 0,.map none] 85)
  have h2 : (w.alloc (.cells #[.slice pa n pc,.slice ra r rc,.int .i64 gr,.int .i64 lk,.int .i64 ce] 30)).heap.size = w.heap.size + 1:=by simp
  rw [h2] at h1;exact h1
 have HB0:=ζ hb0
 clear hb0
 go_enter Try.func30,Try.ntmps30
 refine wp_seq_k fun K hK => ?_
 have HK:=ζ hK
 clear hK
 go_wp2
 refine HK.out _ _ ?_
 clear HK K
 generalize World.alloc _ _ = X at *
 have hgsl:=HB0.out.size
 have hgmX : w.heap.size + 1 < X.heap.size:=blk_lt HN2.out
 generalize hgm : w.heap.size + 1 = gm at *
 generalize hgs : w.heap.size = gs at *
 obtain ⟨s0,s1,s2,s3,s4⟩:=cellsY5 HN1.out
 refine wp_seq_k fun KZ hKZ => ?_
 have HR : Hid (∀ (bI bC bM : Nat) (W : World),W.heap[gm]? = some (.cells #[.slice pa n pc,.slice ra r rc,.int .i64 gr,.int .i64 lk,.int .i64 ce,.int .i64 1,.slice (some ⟨bI,0,none⟩) r r,.slice (some ⟨bC,0,none⟩) r r,.map (some bM)] 85 (0,0)) → W.ownsRow w.heap.size 3 1 (.slice (some ⟨bI,0,none⟩) r r) r (rwI r (inV [])) → W.ownsRow w.heap.size 4 1 (.slice (some ⟨bC,0,none⟩) r r) r (rwI r (clV [])) → MpI W bM [] → w.heap.size ≤ bM → Below w.heap.size w W → KZ { tmps:=#[.agg #[.slice pa n pc,.slice ra r rc,.int .i64 gr,.int .i64 lk,.int .i64 ce],.pointer (some ⟨gs,0,none⟩),.pointer (some ⟨gm,0,none⟩),.agg #[.slice pa n pc,.slice ra r rc,.int .i64 gr,.int .i64 lk,.int .i64 ce],.pointer (some ⟨gs,1,none⟩),.slice ra r rc,.int .i64 (r : Int),.slice (some ⟨bI,0,none⟩) r r,.pointer (some ⟨gs,1,none⟩),.slice ra r rc,.int .i64 (r : Int),.slice (some ⟨bC,0,none⟩) r r,.map (some bM),.agg #[.slice pa n pc,.slice ra r rc,.int .i64 gr,.int .i64 lk,.int .i64 ce,.int .i64 1,.slice (some ⟨bI,0,none⟩) r r,.slice (some ⟨bC,0,none⟩) r r,.map (some bM)]],defers:=[] } W):=by
  intro bI bC bM W h1 h2 h3 h4 h5 h6
  refine hKZ _ _ ?_
  clear hKZ KZ;refine wp_ret ?_
  refine bodyPost_ret (v:=.agg #[.slice pa n pc,.slice ra r rc,.int .i64 gr,.int .i64 lk,.int .i64 ce,.int .i64 1,.slice (some ⟨bI,0,none⟩) r r,.slice (some ⟨bC,0,none⟩) r r,.map (some bM)]) (results_cell_row (P:=Try.prog) Try.results30 _ _ gm 85 _ (0,0) _ rfl h1 Try.underlying85 rfl (by kernel_rfl)) rfl ?_
  rw [HPo.out];exact ⟨bI,bC,bM,rfl,h2,h3,h4,h5,h6⟩
 clear hKZ
 obtain ⟨i3,hi3,hz30,hz31,hz32⟩:=info_parts' intinfo
 obtain ⟨i4,hi4,hz40,hz41,hz42⟩:=info_parts' boolinfo
 have HX : Hid (Below X.heap.size X X):=Below.refl _ _
 refine wp_region_noPanic ?_
 refine RG.wp_region_L (fun Z => Below X.heap.size X Z) (fun Z => True) [11] (by kernel_rfl) ?_
 refine RG.wpL_any fun Yz60 hY => ?_
 have HBz60 : Hid (Below X.heap.size X Yz60):=by rw [hY];exact below_drewN (Below.refl _ _) 1
 clear hY
 refine RG.wpL_takeS (fuel:=5) (a':=?Az60) [0,1,2,3,5,6,7] (by kernel_rfl) (by kernel_rfl) (fun _ _ _ _ _ h => h) trivial (HBz60.out) ?rz60 ?_
 case rz60 =>
  refine RG.rS (.agg #[.slice pa n pc,.slice ra r rc,.int .i64 gr,.int .i64 lk,.int .i64 ce]) (fun Z hT hS => ?_) ?_
  ·have y0:=keepC hS s0;have y1:=keepC hS s1;have y2:=keepC hS s2;have y3:=keepC hS s3;have y4:=keepC hS s4
   go_simp
  simp only [Act.put,lA,lB,lC,lD,lE,lF]
  refine RG.rS ?_ (fun Z hT hS => ?_) ?_
  rotate_left
  ·go_simp
   rfl
  simp only [Act.put,lA,lB,lC,lD,lE,lF]
  refine RG.rS (.slice ra r rc) (fun Z hT hS => ?_) ?_
  ·have y0:=keepC hS s0;have y1:=keepC hS s1;have y2:=keepC hS s2;have y3:=keepC hS s3;have y4:=keepC hS s4
   go_simp
  simp only [Act.put,lA,lB,lC,lD,lE,lF]
  iterate 2
   refine RG.rS ?_ (fun Z hT hS => ?_) ?_
   rotate_left
   ·go_simp
    rfl
   simp only [Act.put,lA,lB,lC,lD,lE,lF]
  refine RG.rS (.slice ra r rc) (fun Z hT hS => ?_) ?_
  ·have y0:=keepC hS s0;have y1:=keepC hS s1;have y2:=keepC hS s2;have y3:=keepC hS s3;have y4:=keepC hS s4
   go_simp
  simp only [Act.put,lA,lB,lC,lD,lE,lF]
  refine RG.rS ?_ (fun Z hT hS => ?_) ?_
  rotate_left
  ·go_simp
   rfl
  simp only [Act.put,lA,lB,lC,lD,lE,lF]
  exact RG.RunsS.nil
 have HTz60:=HBz60
 refine RG.wpL_three (i:=4) (j:=8) (l:=9) (by kernel_rfl) (by rfl) (by rfl) (by rfl) (by rfl) (by rfl) (by rfl) (fun KX hK => ?_) (fun KX hK => ?_) (fun KX hK => ?_)
 ·have HK:=ζ hK
  clear hK;refine wp_make_full Yz60 _ _ 24 (by rfl) w.heap.size 3 i3 (.int .i64 0) 1 Try.underlying24 hi3 hz30 hz31 .i64 .i64 (r : Int) (r : Int) r (by rfl) (by rfl) rfl rfl (by rw [hz32];omega) (by unfold maxLen;omega) (by have:=HTz60.out.size;omega) ?_
  intro Vz61 hown hgrow
  rw [made_rep _ rfl,rep_rw r (inV []) _ (fun c => rfl)] at hown
  have HTVz61 : Hid (Below X.heap.size X Vz61):=HTz60.out.grown hgrow HTz60.out.size (by intro k h;cases h)
  have HOI:=ζ hown
  refine HK.out _ _ trivial (fun _ => HTVz61.out) ?_
  clear HK KX hown hgrow;try simp only [Act.put,lA,lB,lC,lD,lE,lF]
  generalize hqI : Yz60.heap.size = bI at *;refine RG.wpL_pair (i:=8) (j:=9) (by kernel_rfl) (by rfl) (by rfl) (by rfl) (by rfl) (fun KX hK => ?_) (fun KX hK => ?_)
  ·have HK:=ζ hK
   clear hK;refine wp_make_full Vz61 _ _ 53 (by rfl) w.heap.size 4 i4 (.bool false) 1 Try.underlying53 hi4 hz40 hz41 .i64 .i64 (r : Int) (r : Int) r (by rfl) (by rfl) rfl rfl (by rw [hz42];omega) (by unfold maxLen;omega) (by have:=HTVz61.out.size;omega) ?_
   intro Vz62 hown hgrow
   rw [made_rep _ rfl,rep_rw r (clV []) _ (fun c => rfl)] at hown
   have HTVz62 : Hid (Below X.heap.size X Vz62):=HTVz61.out.grown hgrow HTVz61.out.size (by intro k h;cases h)
   have HOI_:=ζ (own_keepK HOI.out (fun b hb => (fun hlt => hgrow.block _ hlt (fun h => by cases h)) (own_lt HOI.out b hb)))
   clear HOI;have HOI:=HOI_
   clear HOI_;have HOC:=ζ hown
   refine HK.out _ _ trivial (fun _ => HTVz62.out) ?_
   clear HK KX hown hgrow;try simp only [Act.put,lA,lB,lC,lD,lE,lF]
   generalize hqC : Vz61.heap.size = bC at *;refine RG.wpL_step (i:=9) (by kernel_rfl) (by rfl) (by rfl) (fun KX hK => ?_)
   have HK:=ζ hK
   clear hK;have hA : Below Vz62.heap.size Vz62 (Vz62.alloc (.map #[] 0)):=(Below.refl _ _).alloc (Nat.le_refl _) _
   have HOI_:=ζ (own_keepK HOI.out (fun b hb => hA.block _ (own_lt HOI.out b hb)))
   clear HOI;have HOI:=HOI_
   clear HOI_;have HOC_:=ζ (own_keepK HOC.out (fun b hb => hA.block _ (own_lt HOC.out b hb)))
   clear HOC;have HOC:=HOC_
   clear HOC_;have HM:=ζ (MpI.made Vz62)
   have HTVz63 : Hid (Below X.heap.size X (Vz62.alloc (.map #[] 0))):=HTVz62.out.trans (hA.mono HTVz62.out.size)
   have hbM : w.heap.size ≤ Vz62.heap.size:=by have:=HTVz62.out.size;omega
   refine wp_makeMap Vz62 83 (by rfl) ?_
   refine HK.out _ _ trivial (fun _ => HTVz63.out) ?_
   clear HK KX hA;try simp only [Act.put,lA,lB,lC,lD,lE,lF]
   generalize Vz62.alloc (.map #[] 0) = Vz63 at *;generalize hqM : Vz62.heap.size = bM at *;refine RG.wpL_takeS (fuel:=1) (a':=?Az64) [10] (by kernel_rfl) (by kernel_rfl) (fun _ _ _ _ _ h => h) trivial (HTVz63.out) ?rz64 ?_
   case rz64 =>
    refine RG.rS (.agg #[.slice pa n pc,.slice ra r rc,.int .i64 gr,.int .i64 lk,.int .i64 ce,.int .i64 1,.slice (some ⟨bI,0,none⟩) r r,.slice (some ⟨bC,0,none⟩) r r,.map (some bM)]) (fun Z hT hS => ?_) ?_
    ·skip
     go_simp
    simp only [Act.put,lA,lB,lC,lD,lE,lF]
    exact RG.RunsS.nil
   have N5:=ζ (blk_keep HN2.out HTVz63.out)
   have HW1:=ζ (setRow_heap _ _ _ #[.slice pa n pc,.slice ra r rc,.int .i64 gr,.int .i64 lk,.int .i64 ce,.int .i64 1,.slice (some ⟨bI,0,none⟩) r r,.slice (some ⟨bC,0,none⟩) r r,.map (some bM)] _ _ N5.out)
   have HW2 : Hid ((Vz63.setRow gm #[.slice pa n pc,.slice ra r rc,.int .i64 gr,.int .i64 lk,.int .i64 ce,.int .i64 1,.slice (some ⟨bI,0,none⟩) r r,.slice (some ⟨bC,0,none⟩) r r,.map (some bM)]).ownsRow w.heap.size 3 1 (.slice (some ⟨bI,0,none⟩) r r) r (rwI r (inV []))):=own_keepK HOI.out (fun b hb => setRow_other _ _ _ _ (fun e => by subst e;exact own_neB HOI.out N5.out (by decide) hb))
   have HW3 : Hid ((Vz63.setRow gm #[.slice pa n pc,.slice ra r rc,.int .i64 gr,.int .i64 lk,.int .i64 ce,.int .i64 1,.slice (some ⟨bI,0,none⟩) r r,.slice (some ⟨bC,0,none⟩) r r,.map (some bM)]).ownsRow w.heap.size 4 1 (.slice (some ⟨bC,0,none⟩) r r) r (rwI r (clV []))):=own_keepK HOC.out (fun b hb => setRow_other _ _ _ _ (fun e => by subst e;exact own_neB HOC.out N5.out (by decide) hb))
   have HW4 : Hid (MpI (Vz63.setRow gm #[.slice pa n pc,.slice ra r rc,.int .i64 gr,.int .i64 lk,.int .i64 ce,.int .i64 1,.slice (some ⟨bI,0,none⟩) r r,.slice (some ⟨bC,0,none⟩) r r,.map (some bM)]) bM []):=HM.out.keep (setRow_other _ _ _ _ (HM.out.ne N5.out))
   have HW5 : Hid (Below w.heap.size w (Vz63.setRow gm #[.slice pa n pc,.slice ra r rc,.int .i64 gr,.int .i64 lk,.int .i64 ce,.int .i64 1,.slice (some ⟨bI,0,none⟩) r r,.slice (some ⟨bC,0,none⟩) r r,.map (some bM)])):=by rw [hgs];exact below_setRow (HB0.out.trans (HTVz63.out.mono hgsl)) (by omega)
   refine RG.wpL_late (i:=11) (by kernel_rfl) (by rfl) (by rfl) (by kernel_rfl) (fun KX hK => ?_)
   have HK:=ζ hK
   clear hK;refine wp_store_row 85 _ _ (by rfl) gm #[.slice pa n pc,.slice ra r rc,.int .i64 gr,.int .i64 lk,.int .i64 ce,.int .i64 1,.slice (some ⟨bI,0,none⟩) r r,.slice (some ⟨bC,0,none⟩) r r,.map (some bM)] (by rfl) (by rfl) 85 _ N5.out (by kernel_rfl) (by rfl) (by simp [Value.oneCell']) ?_
   simp only [Act.put,lA,lB,lC,lD,lE,lF]
   refine HK.out _ _ trivial ?_
   clear HK KX;refine RG.wpL_done (by kernel_rfl) ?_ _
   refine NoPanic.normal ?_
   exact HR.out bI bC bM _ HW1.out HW2.out HW3.out HW4.out hbM HW5.out
  ·have HK:=ζ hK
   clear hK;have hA : Below Vz61.heap.size Vz61 (Vz61.alloc (.map #[] 0)):=(Below.refl _ _).alloc (Nat.le_refl _) _
   have HOI_:=ζ (own_keepK HOI.out (fun b hb => hA.block _ (own_lt HOI.out b hb)))
   clear HOI;have HOI:=HOI_
   clear HOI_;have HM:=ζ (MpI.made Vz61)
   have HTVz65 : Hid (Below X.heap.size X (Vz61.alloc (.map #[] 0))):=HTVz61.out.trans (hA.mono HTVz61.out.size)
   have hbM : w.heap.size ≤ Vz61.heap.size:=by have:=HTVz61.out.size;omega
   refine wp_makeMap Vz61 83 (by rfl) ?_
   refine HK.out _ _ trivial (fun _ => HTVz65.out) ?_
   clear HK KX hA;try simp only [Act.put,lA,lB,lC,lD,lE,lF]
   generalize Vz61.alloc (.map #[] 0) = Vz65 at *;generalize hqM : Vz61.heap.size = bM at *;refine RG.wpL_step (i:=8) (by kernel_rfl) (by rfl) (by rfl) (fun KX hK => ?_)
   have HK:=ζ hK
   clear hK;refine wp_make_full Vz65 _ _ 53 (by rfl) w.heap.size 4 i4 (.bool false) 1 Try.underlying53 hi4 hz40 hz41 .i64 .i64 (r : Int) (r : Int) r (by rfl) (by rfl) rfl rfl (by rw [hz42];omega) (by unfold maxLen;omega) (by have:=HTVz65.out.size;omega) ?_
   intro Vz66 hown hgrow
   rw [made_rep _ rfl,rep_rw r (clV []) _ (fun c => rfl)] at hown
   have HTVz66 : Hid (Below X.heap.size X Vz66):=HTVz65.out.grown hgrow HTVz65.out.size (by intro k h;cases h)
   have HOI_:=ζ (own_keepK HOI.out (fun b hb => (fun hlt => hgrow.block _ hlt (fun h => by cases h)) (own_lt HOI.out b hb)))
   clear HOI;have HOI:=HOI_
   clear HOI_;have HM_:=ζ (HM.out.keep ((fun hlt => hgrow.block _ hlt (fun h => by cases h)) (HM.out.lt)))
   clear HM;have HM:=HM_
   clear HM_;have HOC:=ζ hown
   refine HK.out _ _ trivial (fun _ => HTVz66.out) ?_
   clear HK KX hown hgrow;try simp only [Act.put,lA,lB,lC,lD,lE,lF]
   generalize hqC : Vz65.heap.size = bC at *;refine RG.wpL_takeS (fuel:=1) (a':=?Az67) [10] (by kernel_rfl) (by kernel_rfl) (fun _ _ _ _ _ h => h) trivial (HTVz66.out) ?rz67 ?_
   case rz67 =>
    refine RG.rS (.agg #[.slice pa n pc,.slice ra r rc,.int .i64 gr,.int .i64 lk,.int .i64 ce,.int .i64 1,.slice (some ⟨bI,0,none⟩) r r,.slice (some ⟨bC,0,none⟩) r r,.map (some bM)]) (fun Z hT hS => ?_) ?_
    ·skip
     go_simp
    simp only [Act.put,lA,lB,lC,lD,lE,lF]
    exact RG.RunsS.nil
   have N5:=ζ (blk_keep HN2.out HTVz66.out)
   have HW1:=ζ (setRow_heap _ _ _ #[.slice pa n pc,.slice ra r rc,.int .i64 gr,.int .i64 lk,.int .i64 ce,.int .i64 1,.slice (some ⟨bI,0,none⟩) r r,.slice (some ⟨bC,0,none⟩) r r,.map (some bM)] _ _ N5.out)
   have HW2 : Hid ((Vz66.setRow gm #[.slice pa n pc,.slice ra r rc,.int .i64 gr,.int .i64 lk,.int .i64 ce,.int .i64 1,.slice (some ⟨bI,0,none⟩) r r,.slice (some ⟨bC,0,none⟩) r r,.map (some bM)]).ownsRow w.heap.size 3 1 (.slice (some ⟨bI,0,none⟩) r r) r (rwI r (inV []))):=own_keepK HOI.out (fun b hb => setRow_other _ _ _ _ (fun e => by subst e;exact own_neB HOI.out N5.out (by decide) hb))
   have HW3 : Hid ((Vz66.setRow gm #[.slice pa n pc,.slice ra r rc,.int .i64 gr,.int .i64 lk,.int .i64 ce,.int .i64 1,.slice (some ⟨bI,0,none⟩) r r,.slice (some ⟨bC,0,none⟩) r r,.map (some bM)]).ownsRow w.heap.size 4 1 (.slice (some ⟨bC,0,none⟩) r r) r (rwI r (clV []))):=own_keepK HOC.out (fun b hb => setRow_other _ _ _ _ (fun e => by subst e;exact own_neB HOC.out N5.out (by decide) hb))
   have HW4 : Hid (MpI (Vz66.setRow gm #[.slice pa n pc,.slice ra r rc,.int .i64 gr,.int .i64 lk,.int .i64 ce,.int .i64 1,.slice (some ⟨bI,0,none⟩) r r,.slice (some ⟨bC,0,none⟩) r r,.map (some bM)]) bM []):=HM.out.keep (setRow_other _ _ _ _ (HM.out.ne N5.out))
   have HW5 : Hid (Below w.heap.size w (Vz66.setRow gm #[.slice pa n pc,.slice ra r rc,.int .i64 gr,.int .i64 lk,.int .i64 ce,.int .i64 1,.slice (some ⟨bI,0,none⟩) r r,.slice (some ⟨bC,0,none⟩) r r,.map (some bM)])):=by rw [hgs];exact below_setRow (HB0.out.trans (HTVz66.out.mono hgsl)) (by omega)
   refine RG.wpL_late (i:=11) (by kernel_rfl) (by rfl) (by rfl) (by kernel_rfl) (fun KX hK => ?_)
   have HK:=ζ hK
   clear hK;refine wp_store_row 85 _ _ (by rfl) gm #[.slice pa n pc,.slice ra r rc,.int .i64 gr,.int .i64 lk,.int .i64 ce,.int .i64 1,.slice (some ⟨bI,0,none⟩) r r,.slice (some ⟨bC,0,none⟩) r r,.map (some bM)] (by rfl) (by rfl) 85 _ N5.out (by kernel_rfl) (by rfl) (by simp [Value.oneCell']) ?_
   simp only [Act.put,lA,lB,lC,lD,lE,lF]
   refine HK.out _ _ trivial ?_
   clear HK KX;refine RG.wpL_done (by kernel_rfl) ?_ _
   refine NoPanic.normal ?_
   exact HR.out bI bC bM _ HW1.out HW2.out HW3.out HW4.out hbM HW5.out
 ·have HK:=ζ hK
  clear hK;refine wp_make_full Yz60 _ _ 53 (by rfl) w.heap.size 4 i4 (.bool false) 1 Try.underlying53 hi4 hz40 hz41 .i64 .i64 (r : Int) (r : Int) r (by rfl) (by rfl) rfl rfl (by rw [hz42];omega) (by unfold maxLen;omega) (by have:=HTz60.out.size;omega) ?_
  intro Vz68 hown hgrow
  rw [made_rep _ rfl,rep_rw r (clV []) _ (fun c => rfl)] at hown
  have HTVz68 : Hid (Below X.heap.size X Vz68):=HTz60.out.grown hgrow HTz60.out.size (by intro k h;cases h)
  have HOC:=ζ hown
  refine HK.out _ _ trivial (fun _ => HTVz68.out) ?_
  clear HK KX hown hgrow;try simp only [Act.put,lA,lB,lC,lD,lE,lF]
  generalize hqC : Yz60.heap.size = bC at *;refine RG.wpL_pair (i:=4) (j:=9) (by kernel_rfl) (by rfl) (by rfl) (by rfl) (by rfl) (fun KX hK => ?_) (fun KX hK => ?_)
  ·have HK:=ζ hK
   clear hK;refine wp_make_full Vz68 _ _ 24 (by rfl) w.heap.size 3 i3 (.int .i64 0) 1 Try.underlying24 hi3 hz30 hz31 .i64 .i64 (r : Int) (r : Int) r (by rfl) (by rfl) rfl rfl (by rw [hz32];omega) (by unfold maxLen;omega) (by have:=HTVz68.out.size;omega) ?_
   intro Vz69 hown hgrow
   rw [made_rep _ rfl,rep_rw r (inV []) _ (fun c => rfl)] at hown
   have HTVz69 : Hid (Below X.heap.size X Vz69):=HTVz68.out.grown hgrow HTVz68.out.size (by intro k h;cases h)
   have HOC_:=ζ (own_keepK HOC.out (fun b hb => (fun hlt => hgrow.block _ hlt (fun h => by cases h)) (own_lt HOC.out b hb)))
   clear HOC;have HOC:=HOC_
   clear HOC_;have HOI:=ζ hown
   refine HK.out _ _ trivial (fun _ => HTVz69.out) ?_
   clear HK KX hown hgrow;try simp only [Act.put,lA,lB,lC,lD,lE,lF]
   generalize hqI : Vz68.heap.size = bI at *;refine RG.wpL_step (i:=9) (by kernel_rfl) (by rfl) (by rfl) (fun KX hK => ?_)
   have HK:=ζ hK
   clear hK;have hA : Below Vz69.heap.size Vz69 (Vz69.alloc (.map #[] 0)):=(Below.refl _ _).alloc (Nat.le_refl _) _
   have HOC_:=ζ (own_keepK HOC.out (fun b hb => hA.block _ (own_lt HOC.out b hb)))
   clear HOC;have HOC:=HOC_
   clear HOC_;have HOI_:=ζ (own_keepK HOI.out (fun b hb => hA.block _ (own_lt HOI.out b hb)))
   clear HOI;have HOI:=HOI_
   clear HOI_;have HM:=ζ (MpI.made Vz69)
   have HTVz70 : Hid (Below X.heap.size X (Vz69.alloc (.map #[] 0))):=HTVz69.out.trans (hA.mono HTVz69.out.size)
   have hbM : w.heap.size ≤ Vz69.heap.size:=by have:=HTVz69.out.size;omega
   refine wp_makeMap Vz69 83 (by rfl) ?_
   refine HK.out _ _ trivial (fun _ => HTVz70.out) ?_
   clear HK KX hA;try simp only [Act.put,lA,lB,lC,lD,lE,lF]
   generalize Vz69.alloc (.map #[] 0) = Vz70 at *;generalize hqM : Vz69.heap.size = bM at *;refine RG.wpL_takeS (fuel:=1) (a':=?Az71) [10] (by kernel_rfl) (by kernel_rfl) (fun _ _ _ _ _ h => h) trivial (HTVz70.out) ?rz71 ?_
   case rz71 =>
    refine RG.rS (.agg #[.slice pa n pc,.slice ra r rc,.int .i64 gr,.int .i64 lk,.int .i64 ce,.int .i64 1,.slice (some ⟨bI,0,none⟩) r r,.slice (some ⟨bC,0,none⟩) r r,.map (some bM)]) (fun Z hT hS => ?_) ?_
    ·skip
     go_simp
    simp only [Act.put,lA,lB,lC,lD,lE,lF]
    exact RG.RunsS.nil
   have N5:=ζ (blk_keep HN2.out HTVz70.out)
   have HW1:=ζ (setRow_heap _ _ _ #[.slice pa n pc,.slice ra r rc,.int .i64 gr,.int .i64 lk,.int .i64 ce,.int .i64 1,.slice (some ⟨bI,0,none⟩) r r,.slice (some ⟨bC,0,none⟩) r r,.map (some bM)] _ _ N5.out)
   have HW2 : Hid ((Vz70.setRow gm #[.slice pa n pc,.slice ra r rc,.int .i64 gr,.int .i64 lk,.int .i64 ce,.int .i64 1,.slice (some ⟨bI,0,none⟩) r r,.slice (some ⟨bC,0,none⟩) r r,.map (some bM)]).ownsRow w.heap.size 3 1 (.slice (some ⟨bI,0,none⟩) r r) r (rwI r (inV []))):=own_keepK HOI.out (fun b hb => setRow_other _ _ _ _ (fun e => by subst e;exact own_neB HOI.out N5.out (by decide) hb))
   have HW3 : Hid ((Vz70.setRow gm #[.slice pa n pc,.slice ra r rc,.int .i64 gr,.int .i64 lk,.int .i64 ce,.int .i64 1,.slice (some ⟨bI,0,none⟩) r r,.slice (some ⟨bC,0,none⟩) r r,.map (some bM)]).ownsRow w.heap.size 4 1 (.slice (some ⟨bC,0,none⟩) r r) r (rwI r (clV []))):=own_keepK HOC.out (fun b hb => setRow_other _ _ _ _ (fun e => by subst e;exact own_neB HOC.out N5.out (by decide) hb))
   have HW4 : Hid (MpI (Vz70.setRow gm #[.slice pa n pc,.slice ra r rc,.int .i64 gr,.int .i64 lk,.int .i64 ce,.int .i64 1,.slice (some ⟨bI,0,none⟩) r r,.slice (some ⟨bC,0,none⟩) r r,.map (some bM)]) bM []):=HM.out.keep (setRow_other _ _ _ _ (HM.out.ne N5.out))
   have HW5 : Hid (Below w.heap.size w (Vz70.setRow gm #[.slice pa n pc,.slice ra r rc,.int .i64 gr,.int .i64 lk,.int .i64 ce,.int .i64 1,.slice (some ⟨bI,0,none⟩) r r,.slice (some ⟨bC,0,none⟩) r r,.map (some bM)])):=by rw [hgs];exact below_setRow (HB0.out.trans (HTVz70.out.mono hgsl)) (by omega)
   refine RG.wpL_late (i:=11) (by kernel_rfl) (by rfl) (by rfl) (by kernel_rfl) (fun KX hK => ?_)
   have HK:=ζ hK
   clear hK;refine wp_store_row 85 _ _ (by rfl) gm #[.slice pa n pc,.slice ra r rc,.int .i64 gr,.int .i64 lk,.int .i64 ce,.int .i64 1,.slice (some ⟨bI,0,none⟩) r r,.slice (some ⟨bC,0,none⟩) r r,.map (some bM)] (by rfl) (by rfl) 85 _ N5.out (by kernel_rfl) (by rfl) (by simp [Value.oneCell']) ?_
   simp only [Act.put,lA,lB,lC,lD,lE,lF]
   refine HK.out _ _ trivial ?_
   clear HK KX;refine RG.wpL_done (by kernel_rfl) ?_ _
   refine NoPanic.normal ?_
   exact HR.out bI bC bM _ HW1.out HW2.out HW3.out HW4.out hbM HW5.out
  ·have HK:=ζ hK
   clear hK;have hA : Below Vz68.heap.size Vz68 (Vz68.alloc (.map #[] 0)):=(Below.refl _ _).alloc (Nat.le_refl _) _
   have HOC_:=ζ (own_keepK HOC.out (fun b hb => hA.block _ (own_lt HOC.out b hb)))
   clear HOC;have HOC:=HOC_
   clear HOC_;have HM:=ζ (MpI.made Vz68)
   have HTVz72 : Hid (Below X.heap.size X (Vz68.alloc (.map #[] 0))):=HTVz68.out.trans (hA.mono HTVz68.out.size)
   have hbM : w.heap.size ≤ Vz68.heap.size:=by have:=HTVz68.out.size;omega
   refine wp_makeMap Vz68 83 (by rfl) ?_
   refine HK.out _ _ trivial (fun _ => HTVz72.out) ?_
   clear HK KX hA;try simp only [Act.put,lA,lB,lC,lD,lE,lF]
   generalize Vz68.alloc (.map #[] 0) = Vz72 at *;generalize hqM : Vz68.heap.size = bM at *;refine RG.wpL_step (i:=4) (by kernel_rfl) (by rfl) (by rfl) (fun KX hK => ?_)
   have HK:=ζ hK
   clear hK;refine wp_make_full Vz72 _ _ 24 (by rfl) w.heap.size 3 i3 (.int .i64 0) 1 Try.underlying24 hi3 hz30 hz31 .i64 .i64 (r : Int) (r : Int) r (by rfl) (by rfl) rfl rfl (by rw [hz32];omega) (by unfold maxLen;omega) (by have:=HTVz72.out.size;omega) ?_
   intro Vz73 hown hgrow
   rw [made_rep _ rfl,rep_rw r (inV []) _ (fun c => rfl)] at hown
   have HTVz73 : Hid (Below X.heap.size X Vz73):=HTVz72.out.grown hgrow HTVz72.out.size (by intro k h;cases h)
   have HOC_:=ζ (own_keepK HOC.out (fun b hb => (fun hlt => hgrow.block _ hlt (fun h => by cases h)) (own_lt HOC.out b hb)))
   clear HOC;have HOC:=HOC_
   clear HOC_;have HM_:=ζ (HM.out.keep ((fun hlt => hgrow.block _ hlt (fun h => by cases h)) (HM.out.lt)))
   clear HM;have HM:=HM_
   clear HM_;have HOI:=ζ hown
   refine HK.out _ _ trivial (fun _ => HTVz73.out) ?_
   clear HK KX hown hgrow;try simp only [Act.put,lA,lB,lC,lD,lE,lF]
   generalize hqI : Vz72.heap.size = bI at *;refine RG.wpL_takeS (fuel:=1) (a':=?Az74) [10] (by kernel_rfl) (by kernel_rfl) (fun _ _ _ _ _ h => h) trivial (HTVz73.out) ?rz74 ?_
   case rz74 =>
    refine RG.rS (.agg #[.slice pa n pc,.slice ra r rc,.int .i64 gr,.int .i64 lk,.int .i64 ce,.int .i64 1,.slice (some ⟨bI,0,none⟩) r r,.slice (some ⟨bC,0,none⟩) r r,.map (some bM)]) (fun Z hT hS => ?_) ?_
    ·skip
     go_simp
    simp only [Act.put,lA,lB,lC,lD,lE,lF]
    exact RG.RunsS.nil
   have N5:=ζ (blk_keep HN2.out HTVz73.out)
   have HW1:=ζ (setRow_heap _ _ _ #[.slice pa n pc,.slice ra r rc,.int .i64 gr,.int .i64 lk,.int .i64 ce,.int .i64 1,.slice (some ⟨bI,0,none⟩) r r,.slice (some ⟨bC,0,none⟩) r r,.map (some bM)] _ _ N5.out)
   have HW2 : Hid ((Vz73.setRow gm #[.slice pa n pc,.slice ra r rc,.int .i64 gr,.int .i64 lk,.int .i64 ce,.int .i64 1,.slice (some ⟨bI,0,none⟩) r r,.slice (some ⟨bC,0,none⟩) r r,.map (some bM)]).ownsRow w.heap.size 3 1 (.slice (some ⟨bI,0,none⟩) r r) r (rwI r (inV []))):=own_keepK HOI.out (fun b hb => setRow_other _ _ _ _ (fun e => by subst e;exact own_neB HOI.out N5.out (by decide) hb))
   have HW3 : Hid ((Vz73.setRow gm #[.slice pa n pc,.slice ra r rc,.int .i64 gr,.int .i64 lk,.int .i64 ce,.int .i64 1,.slice (some ⟨bI,0,none⟩) r r,.slice (some ⟨bC,0,none⟩) r r,.map (some bM)]).ownsRow w.heap.size 4 1 (.slice (some ⟨bC,0,none⟩) r r) r (rwI r (clV []))):=own_keepK HOC.out (fun b hb => setRow_other _ _ _ _ (fun e => by subst e;exact own_neB HOC.out N5.out (by decide) hb))
   have HW4 : Hid (MpI (Vz73.setRow gm #[.slice pa n pc,.slice ra r rc,.int .i64 gr,.int .i64 lk,.int .i64 ce,.int .i64 1,.slice (some ⟨bI,0,none⟩) r r,.slice (some ⟨bC,0,none⟩) r r,.map (some bM)]) bM []):=HM.out.keep (setRow_other _ _ _ _ (HM.out.ne N5.out))
   have HW5 : Hid (Below w.heap.size w (Vz73.setRow gm #[.slice pa n pc,.slice ra r rc,.int .i64 gr,.int .i64 lk,.int .i64 ce,.int .i64 1,.slice (some ⟨bI,0,none⟩) r r,.slice (some ⟨bC,0,none⟩) r r,.map (some bM)])):=by rw [hgs];exact below_setRow (HB0.out.trans (HTVz73.out.mono hgsl)) (by omega)
   refine RG.wpL_late (i:=11) (by kernel_rfl) (by rfl) (by rfl) (by kernel_rfl) (fun KX hK => ?_)
   have HK:=ζ hK
   clear hK;refine wp_store_row 85 _ _ (by rfl) gm #[.slice pa n pc,.slice ra r rc,.int .i64 gr,.int .i64 lk,.int .i64 ce,.int .i64 1,.slice (some ⟨bI,0,none⟩) r r,.slice (some ⟨bC,0,none⟩) r r,.map (some bM)] (by rfl) (by rfl) 85 _ N5.out (by kernel_rfl) (by rfl) (by simp [Value.oneCell']) ?_
   simp only [Act.put,lA,lB,lC,lD,lE,lF]
   refine HK.out _ _ trivial ?_
   clear HK KX;refine RG.wpL_done (by kernel_rfl) ?_ _
   refine NoPanic.normal ?_
   exact HR.out bI bC bM _ HW1.out HW2.out HW3.out HW4.out hbM HW5.out
 ·have HK:=ζ hK
  clear hK;have hA : Below Yz60.heap.size Yz60 (Yz60.alloc (.map #[] 0)):=(Below.refl _ _).alloc (Nat.le_refl _) _
  have HM:=ζ (MpI.made Yz60)
  have HTVz75 : Hid (Below X.heap.size X (Yz60.alloc (.map #[] 0))):=HTz60.out.trans (hA.mono HTz60.out.size)
  have hbM : w.heap.size ≤ Yz60.heap.size:=by have:=HTz60.out.size;omega
  refine wp_makeMap Yz60 83 (by rfl) ?_
  refine HK.out _ _ trivial (fun _ => HTVz75.out) ?_
  clear HK KX hA;try simp only [Act.put,lA,lB,lC,lD,lE,lF]
  generalize Yz60.alloc (.map #[] 0) = Vz75 at *;generalize hqM : Yz60.heap.size = bM at *;refine RG.wpL_pair (i:=4) (j:=8) (by kernel_rfl) (by rfl) (by rfl) (by rfl) (by rfl) (fun KX hK => ?_) (fun KX hK => ?_)
  ·have HK:=ζ hK
   clear hK;refine wp_make_full Vz75 _ _ 24 (by rfl) w.heap.size 3 i3 (.int .i64 0) 1 Try.underlying24 hi3 hz30 hz31 .i64 .i64 (r : Int) (r : Int) r (by rfl) (by rfl) rfl rfl (by rw [hz32];omega) (by unfold maxLen;omega) (by have:=HTVz75.out.size;omega) ?_
   intro Vz76 hown hgrow
   rw [made_rep _ rfl,rep_rw r (inV []) _ (fun c => rfl)] at hown
   have HTVz76 : Hid (Below X.heap.size X Vz76):=HTVz75.out.grown hgrow HTVz75.out.size (by intro k h;cases h)
   have HM_:=ζ (HM.out.keep ((fun hlt => hgrow.block _ hlt (fun h => by cases h)) (HM.out.lt)))
   clear HM;have HM:=HM_
   clear HM_;have HOI:=ζ hown
   refine HK.out _ _ trivial (fun _ => HTVz76.out) ?_
   clear HK KX hown hgrow;try simp only [Act.put,lA,lB,lC,lD,lE,lF]
   generalize hqI : Vz75.heap.size = bI at *;refine RG.wpL_step (i:=8) (by kernel_rfl) (by rfl) (by rfl) (fun KX hK => ?_)
   have HK:=ζ hK
   clear hK;refine wp_make_full Vz76 _ _ 53 (by rfl) w.heap.size 4 i4 (.bool false) 1 Try.underlying53 hi4 hz40 hz41 .i64 .i64 (r : Int) (r : Int) r (by rfl) (by rfl) rfl rfl (by rw [hz42];omega) (by unfold maxLen;omega) (by have:=HTVz76.out.size;omega) ?_
   intro Vz77 hown hgrow
   rw [made_rep _ rfl,rep_rw r (clV []) _ (fun c => rfl)] at hown
   have HTVz77 : Hid (Below X.heap.size X Vz77):=HTVz76.out.grown hgrow HTVz76.out.size (by intro k h;cases h)
   have HM_:=ζ (HM.out.keep ((fun hlt => hgrow.block _ hlt (fun h => by cases h)) (HM.out.lt)))
   clear HM;have HM:=HM_
   clear HM_;have HOI_:=ζ (own_keepK HOI.out (fun b hb => (fun hlt => hgrow.block _ hlt (fun h => by cases h)) (own_lt HOI.out b hb)))
   clear HOI;have HOI:=HOI_
   clear HOI_;have HOC:=ζ hown
   refine HK.out _ _ trivial (fun _ => HTVz77.out) ?_
   clear HK KX hown hgrow;try simp only [Act.put,lA,lB,lC,lD,lE,lF]
   generalize hqC : Vz76.heap.size = bC at *;refine RG.wpL_takeS (fuel:=1) (a':=?Az78) [10] (by kernel_rfl) (by kernel_rfl) (fun _ _ _ _ _ h => h) trivial (HTVz77.out) ?rz78 ?_
   case rz78 =>
    refine RG.rS (.agg #[.slice pa n pc,.slice ra r rc,.int .i64 gr,.int .i64 lk,.int .i64 ce,.int .i64 1,.slice (some ⟨bI,0,none⟩) r r,.slice (some ⟨bC,0,none⟩) r r,.map (some bM)]) (fun Z hT hS => ?_) ?_
    ·skip
     go_simp
    simp only [Act.put,lA,lB,lC,lD,lE,lF]
    exact RG.RunsS.nil
   have N5:=ζ (blk_keep HN2.out HTVz77.out)
   have HW1:=ζ (setRow_heap _ _ _ #[.slice pa n pc,.slice ra r rc,.int .i64 gr,.int .i64 lk,.int .i64 ce,.int .i64 1,.slice (some ⟨bI,0,none⟩) r r,.slice (some ⟨bC,0,none⟩) r r,.map (some bM)] _ _ N5.out)
   have HW2 : Hid ((Vz77.setRow gm #[.slice pa n pc,.slice ra r rc,.int .i64 gr,.int .i64 lk,.int .i64 ce,.int .i64 1,.slice (some ⟨bI,0,none⟩) r r,.slice (some ⟨bC,0,none⟩) r r,.map (some bM)]).ownsRow w.heap.size 3 1 (.slice (some ⟨bI,0,none⟩) r r) r (rwI r (inV []))):=own_keepK HOI.out (fun b hb => setRow_other _ _ _ _ (fun e => by subst e;exact own_neB HOI.out N5.out (by decide) hb))
   have HW3 : Hid ((Vz77.setRow gm #[.slice pa n pc,.slice ra r rc,.int .i64 gr,.int .i64 lk,.int .i64 ce,.int .i64 1,.slice (some ⟨bI,0,none⟩) r r,.slice (some ⟨bC,0,none⟩) r r,.map (some bM)]).ownsRow w.heap.size 4 1 (.slice (some ⟨bC,0,none⟩) r r) r (rwI r (clV []))):=own_keepK HOC.out (fun b hb => setRow_other _ _ _ _ (fun e => by subst e;exact own_neB HOC.out N5.out (by decide) hb))
   have HW4 : Hid (MpI (Vz77.setRow gm #[.slice pa n pc,.slice ra r rc,.int .i64 gr,.int .i64 lk,.int .i64 ce,.int .i64 1,.slice (some ⟨bI,0,none⟩) r r,.slice (some ⟨bC,0,none⟩) r r,.map (some bM)]) bM []):=HM.out.keep (setRow_other _ _ _ _ (HM.out.ne N5.out))
   have HW5 : Hid (Below w.heap.size w (Vz77.setRow gm #[.slice pa n pc,.slice ra r rc,.int .i64 gr,.int .i64 lk,.int .i64 ce,.int .i64 1,.slice (some ⟨bI,0,none⟩) r r,.slice (some ⟨bC,0,none⟩) r r,.map (some bM)])):=by rw [hgs];exact below_setRow (HB0.out.trans (HTVz77.out.mono hgsl)) (by omega)
   refine RG.wpL_late (i:=11) (by kernel_rfl) (by rfl) (by rfl) (by kernel_rfl) (fun KX hK => ?_)
   have HK:=ζ hK
   clear hK;refine wp_store_row 85 _ _ (by rfl) gm #[.slice pa n pc,.slice ra r rc,.int .i64 gr,.int .i64 lk,.int .i64 ce,.int .i64 1,.slice (some ⟨bI,0,none⟩) r r,.slice (some ⟨bC,0,none⟩) r r,.map (some bM)] (by rfl) (by rfl) 85 _ N5.out (by kernel_rfl) (by rfl) (by simp [Value.oneCell']) ?_
   simp only [Act.put,lA,lB,lC,lD,lE,lF]
   refine HK.out _ _ trivial ?_
   clear HK KX;refine RG.wpL_done (by kernel_rfl) ?_ _
   refine NoPanic.normal ?_
   exact HR.out bI bC bM _ HW1.out HW2.out HW3.out HW4.out hbM HW5.out
  ·have HK:=ζ hK
   clear hK;refine wp_make_full Vz75 _ _ 53 (by rfl) w.heap.size 4 i4 (.bool false) 1 Try.underlying53 hi4 hz40 hz41 .i64 .i64 (r : Int) (r : Int) r (by rfl) (by rfl) rfl rfl (by rw [hz42];omega) (by unfold maxLen;omega) (by have:=HTVz75.out.size;omega) ?_
   intro Vz79 hown hgrow
   rw [made_rep _ rfl,rep_rw r (clV []) _ (fun c => rfl)] at hown
   have HTVz79 : Hid (Below X.heap.size X Vz79):=HTVz75.out.grown hgrow HTVz75.out.size (by intro k h;cases h)
   have HM_:=ζ (HM.out.keep ((fun hlt => hgrow.block _ hlt (fun h => by cases h)) (HM.out.lt)))
   clear HM;have HM:=HM_
   clear HM_;have HOC:=ζ hown
   refine HK.out _ _ trivial (fun _ => HTVz79.out) ?_
   clear HK KX hown hgrow;try simp only [Act.put,lA,lB,lC,lD,lE,lF]
   generalize hqC : Vz75.heap.size = bC at *;refine RG.wpL_step (i:=4) (by kernel_rfl) (by rfl) (by rfl) (fun KX hK => ?_)
   have HK:=ζ hK
   clear hK;refine wp_make_full Vz79 _ _ 24 (by rfl) w.heap.size 3 i3 (.int .i64 0) 1 Try.underlying24 hi3 hz30 hz31 .i64 .i64 (r : Int) (r : Int) r (by rfl) (by rfl) rfl rfl (by rw [hz32];omega) (by unfold maxLen;omega) (by have:=HTVz79.out.size;omega) ?_
   intro Vz80 hown hgrow
   rw [made_rep _ rfl,rep_rw r (inV []) _ (fun c => rfl)] at hown
   have HTVz80 : Hid (Below X.heap.size X Vz80):=HTVz79.out.grown hgrow HTVz79.out.size (by intro k h;cases h)
   have HM_:=ζ (HM.out.keep ((fun hlt => hgrow.block _ hlt (fun h => by cases h)) (HM.out.lt)))
   clear HM;have HM:=HM_
   clear HM_;have HOC_:=ζ (own_keepK HOC.out (fun b hb => (fun hlt => hgrow.block _ hlt (fun h => by cases h)) (own_lt HOC.out b hb)))
   clear HOC;have HOC:=HOC_
   clear HOC_;have HOI:=ζ hown
   refine HK.out _ _ trivial (fun _ => HTVz80.out) ?_
   clear HK KX hown hgrow;try simp only [Act.put,lA,lB,lC,lD,lE,lF]
   generalize hqI : Vz79.heap.size = bI at *;refine RG.wpL_takeS (fuel:=1) (a':=?Az81) [10] (by kernel_rfl) (by kernel_rfl) (fun _ _ _ _ _ h => h) trivial (HTVz80.out) ?rz81 ?_
   case rz81 =>
    refine RG.rS (.agg #[.slice pa n pc,.slice ra r rc,.int .i64 gr,.int .i64 lk,.int .i64 ce,.int .i64 1,.slice (some ⟨bI,0,none⟩) r r,.slice (some ⟨bC,0,none⟩) r r,.map (some bM)]) (fun Z hT hS => ?_) ?_
    ·skip
     go_simp
    simp only [Act.put,lA,lB,lC,lD,lE,lF]
    exact RG.RunsS.nil
   have N5:=ζ (blk_keep HN2.out HTVz80.out)
   have HW1:=ζ (setRow_heap _ _ _ #[.slice pa n pc,.slice ra r rc,.int .i64 gr,.int .i64 lk,.int .i64 ce,.int .i64 1,.slice (some ⟨bI,0,none⟩) r r,.slice (some ⟨bC,0,none⟩) r r,.map (some bM)] _ _ N5.out)
   have HW2 : Hid ((Vz80.setRow gm #[.slice pa n pc,.slice ra r rc,.int .i64 gr,.int .i64 lk,.int .i64 ce,.int .i64 1,.slice (some ⟨bI,0,none⟩) r r,.slice (some ⟨bC,0,none⟩) r r,.map (some bM)]).ownsRow w.heap.size 3 1 (.slice (some ⟨bI,0,none⟩) r r) r (rwI r (inV []))):=own_keepK HOI.out (fun b hb => setRow_other _ _ _ _ (fun e => by subst e;exact own_neB HOI.out N5.out (by decide) hb))
   have HW3 : Hid ((Vz80.setRow gm #[.slice pa n pc,.slice ra r rc,.int .i64 gr,.int .i64 lk,.int .i64 ce,.int .i64 1,.slice (some ⟨bI,0,none⟩) r r,.slice (some ⟨bC,0,none⟩) r r,.map (some bM)]).ownsRow w.heap.size 4 1 (.slice (some ⟨bC,0,none⟩) r r) r (rwI r (clV []))):=own_keepK HOC.out (fun b hb => setRow_other _ _ _ _ (fun e => by subst e;exact own_neB HOC.out N5.out (by decide) hb))
   have HW4 : Hid (MpI (Vz80.setRow gm #[.slice pa n pc,.slice ra r rc,.int .i64 gr,.int .i64 lk,.int .i64 ce,.int .i64 1,.slice (some ⟨bI,0,none⟩) r r,.slice (some ⟨bC,0,none⟩) r r,.map (some bM)]) bM []):=HM.out.keep (setRow_other _ _ _ _ (HM.out.ne N5.out))
   have HW5 : Hid (Below w.heap.size w (Vz80.setRow gm #[.slice pa n pc,.slice ra r rc,.int .i64 gr,.int .i64 lk,.int .i64 ce,.int .i64 1,.slice (some ⟨bI,0,none⟩) r r,.slice (some ⟨bC,0,none⟩) r r,.map (some bM)])):=by rw [hgs];exact below_setRow (HB0.out.trans (HTVz80.out.mono hgsl)) (by omega)
   refine RG.wpL_late (i:=11) (by kernel_rfl) (by rfl) (by rfl) (by kernel_rfl) (fun KX hK => ?_)
   have HK:=ζ hK
   clear hK;refine wp_store_row 85 _ _ (by rfl) gm #[.slice pa n pc,.slice ra r rc,.int .i64 gr,.int .i64 lk,.int .i64 ce,.int .i64 1,.slice (some ⟨bI,0,none⟩) r r,.slice (some ⟨bC,0,none⟩) r r,.map (some bM)] (by rfl) (by rfl) 85 _ N5.out (by kernel_rfl) (by rfl) (by simp [Value.oneCell']) ?_
   simp only [Act.put,lA,lB,lC,lD,lE,lF]
   refine HK.out _ _ trivial ?_
   clear HK KX;refine RG.wpL_done (by kernel_rfl) ?_ _
   refine NoPanic.normal ?_
   exact HR.out bI bC bM _ HW1.out HW2.out HW3.out HW4.out hbM HW5.out
end LW
end Go.Proofs.Ytfbnakmmmphedaa
