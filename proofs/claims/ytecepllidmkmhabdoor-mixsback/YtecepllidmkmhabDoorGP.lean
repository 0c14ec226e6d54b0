/-
  What the calls G and Ungroup (the program's) give, at all places.
-/
import Derived.Test.YtecepllidmkmhabDoorFour
import Derived.Test.YtecepllidmkmhabDoorRinfo
import Derived.Test.YtecepllidmkmhabDoorOrder
namespace Go.Proofs.YtecepllidmkmhabDoor
open Go.RowKit
set_option linter.unusedVariables false
set_option linter.unusedSimpArgs false
namespace MX
open Turn
attribute [local go_sem ↓] Go.wp_at_zero Go.wp_at_succ
set_option maxRecDepth 100000 in
set_option maxHeartbeats 8000000 in
theorem gOk (vs : List Int) (p0 p1 p2 p3 : Nat) (x y : Int) (w : World) (hv : vs.length = 16) (hV : Ws vs) (hx : W x) (hy : W y) (b0 : p0 < 16) (b1 : p1 < 16) (b2 : p2 < 16) (b3 : p3 < 16) (d1 : p0 ≠ p1) (d2 : p0 ≠ p2) (d3 : p0 ≠ p3) (d4 : p1 ≠ p2) (d5 : p1 ≠ p3) (d6 : p2 ≠ p3) :
    Calls Tryd.prog 15 #[.agg (K .u32 vs), .int .i64 p0, .int .i64 p1, .int .i64 p2, .int .i64 p3, .int .u32 x, .int .u32 y] w fun e w' =>
      e = .returned (.tuple #[.agg (K .u32 (G4 vs p0 p1 p2 p3 x y)), .int .i64 0]) ∧ Below w.heap.size w w' := by
  have hmix := fun X => mix (vs.getD p0 0) (vs.getD p1 0) (vs.getD p2 0) (vs.getD p3 0) x y X (hV.get _) (hV.get _) (hV.get _) (hV.get _) hx hy
  have hfour := fun X => fourPlaces (p0 : Int) (p1 : Int) (p2 : Int) (p3 : Int) X
  rw [show fpB (p0 : Int) (p1 : Int) (p2 : Int) (p3 : Int) = true by simp [fpB, pB]; omega] at hfour
  have hlen := G4_length vs p0 p1 p2 p3 x y
  rw [hv] at hlen
  have iu := info16 _ hlen
  have ou := size16 (List.replicate 16 0) _ rfl hlen
  have hG : G4 vs p0 p1 p2 p3 x y = put4 vs p0 p1 p2 p3 (mixL (vs.getD p0 0) (vs.getD p1 0) (vs.getD p2 0) (vs.getD p3 0) x y) := rfl
  rw [hG] at iu ou ⊢
  clear hG
  generalize mixL (vs.getD p0 0) (vs.getD p1 0) (vs.getD p2 0) (vs.getD p3 0) x y = q at *
  obtain ⟨r0, r1, r2, r3⟩ := q
  simp only [put4] at *
  obtain ⟨va, hva⟩ : ∃ z, vs.getD p0 0 = z := ⟨_, rfl⟩
  obtain ⟨vb, hvb⟩ : ∃ z, vs.getD p1 0 = z := ⟨_, rfl⟩
  obtain ⟨vc, hvc⟩ : ∃ z, vs.getD p2 0 = z := ⟨_, rfl⟩
  obtain ⟨vd, hvd⟩ : ∃ z, vs.getD p3 0 = z := ⟨_, rfl⟩
  rw [hva, hvb, hvc, hvd] at hmix
  have HMIX := TW.hide hmix
  have HFOUR := TW.hide hfour
  have IU := TW.hide iu
  have OU := TW.hide ou
  have EA := TW.hide hva
  have EB := TW.hide hvb
  have EC := TW.hide hvc
  have ED := TW.hide hvd
  clear hmix hfour iu ou hva hvb hvc hvd
  clear hlen hV hx hy
  have hb := (((Below.refl w.heap.size w).alloc (Nat.le_refl _) (.cells (K .u32 vs) 34)).alloc (by simp; try omega) (.cells (K .u32 (List.replicate 16 0)) 34))
  have n0 := (blk_alloc (o' := .cells (K .u32 (List.replicate 16 0)) 34) (heap_new w (.cells (K .u32 vs) 34)))
  have n1 := (heap_new (w.alloc (.cells (K .u32 vs) 34)) (.cells (K .u32 (List.replicate 16 0)) 34))
  rw [show (w.alloc (.cells (K .u32 vs) 34)).heap.size = w.heap.size + 1 by simp] at n1
  go_enter Tryd.func15, Tryd.ntmps15
  refine wp_seq_k fun K hK => ?_
  have HK := TW.hide hK
  clear hK
  go_wp2
  refine HK.out _ _ ?_
  clear HK K
  change Code.wp _ _ _ _ ((w.alloc (.cells (K .u32 vs) 34)).alloc (.cells (K .u32 (List.replicate 16 0)) 34))
  generalize hWW : (w.alloc (.cells (K .u32 vs) 34)).alloc (.cells (K .u32 (List.replicate 16 0)) 34) = Y at hb n0 n1 ⊢
  have hW : Y.heap.size = w.heap.size + 1 + 1 := by rw [← hWW]; simp
  clear hWW
  generalize hB : w.heap.size = B at *
  have j0 : (p0 : Int) < 16 := by omega
  have j1 : (p1 : Int) < 16 := by omega
  have j2 : (p2 : Int) < 16 := by omega
  have j3 : (p3 : Int) < 16 := by omega
  have c0 := blk_cellK n0 (i := p0) (by omega)
  have c1 := blk_cellK n0 (i := p1) (by omega)
  have c2 := blk_cellK n0 (i := p2) (by omega)
  have c3 := blk_cellK n0 (i := p3) (by omega)
  rw [EA.out] at c0
  rw [EB.out] at c1
  rw [EC.out] at c2
  rw [ED.out] at c3
  have HS : Hid (∀ Z : World, Z.heap = Y.heap → Z.cell? ⟨B, p0, none⟩ = some (.int .u32 va) ∧ Z.cell? ⟨B, p1, none⟩ = some (.int .u32 vb) ∧ Z.cell? ⟨B, p2, none⟩ = some (.int .u32 vc) ∧ Z.cell? ⟨B, p3, none⟩ = some (.int .u32 vd)) := fun Z hZ => by
    simp only [World.cell?, hZ] at c0 c1 c2 c3 ⊢
    exact ⟨c0, c1, c2, c3⟩
  clear c0 c1 c2 c3
  have V := TW.hide n0
  have R := TW.hide n1
  have NB := TW.hide hb
  clear n0 n1 hb
  clear hW hB EA EB EC ED
  go_wp2_with (go_at_call 30; refine (HFOUR.out _).mono ?_; rintro e w' ⟨rfl, rfl⟩)
  refine wp_region_noPanic ?_
  refine RG.wp_region_L (fun Z => Z.cell? ⟨B, p0, none⟩ = some (.int .u32 va) ∧ Z.cell? ⟨B, p1, none⟩ = some (.int .u32 vb) ∧ Z.cell? ⟨B, p2, none⟩ = some (.int .u32 vc) ∧ Z.cell? ⟨B, p3, none⟩ = some (.int .u32 vd)) (fun _ => True) [25, 27, 29, 31] (by kernel_rfl) ?_
  refine RG.wpL_take (fuel := 14) (a' := ?A) [0, 1, 2, 3, 4, 5, 6, 7, 8, 9, 10, 11, 12, 13, 14, 15, 16, 17] (by kernel_rfl) (by kernel_rfl) (fun _ _ _ _ _ h => h) trivial (fun _ => HS.out _ rfl) ?r ?_
  case r =>
    iterate 6
      refine RG.RunsIf.weak (v := ?_) (by rfl) (by rfl) (fun Z hT => ?_) ?_
      rotate_left
      · go_simp
        rfl
      simp only [Act.put, List.setIfInBounds_toArray, List.set_cons_zero, List.set_cons_succ]
    iterate 1
      refine RG.RunsIf.strong (v := ?_) (by rfl) (by kernel_rfl) (by rfl) (fun Z hT hS => ?_) ?_
      rotate_left
      · go_simp
        rfl
      simp only [Act.put, List.setIfInBounds_toArray, List.set_cons_zero, List.set_cons_succ]
    iterate 2
      refine RG.RunsIf.weak (v := ?_) (by rfl) (by rfl) (fun Z hT => ?_) ?_
      rotate_left
      · go_simp
        rfl
      simp only [Act.put, List.setIfInBounds_toArray, List.set_cons_zero, List.set_cons_succ]
    iterate 1
      refine RG.RunsIf.strong (v := ?_) (by rfl) (by kernel_rfl) (by rfl) (fun Z hT hS => ?_) ?_
      rotate_left
      · go_simp
        rfl
      simp only [Act.put, List.setIfInBounds_toArray, List.set_cons_zero, List.set_cons_succ]
    iterate 2
      refine RG.RunsIf.weak (v := ?_) (by rfl) (by rfl) (fun Z hT => ?_) ?_
      rotate_left
      · go_simp
        rfl
      simp only [Act.put, List.setIfInBounds_toArray, List.set_cons_zero, List.set_cons_succ]
    iterate 1
      refine RG.RunsIf.strong (v := ?_) (by rfl) (by kernel_rfl) (by rfl) (fun Z hT hS => ?_) ?_
      rotate_left
      · go_simp
        rfl
      simp only [Act.put, List.setIfInBounds_toArray, List.set_cons_zero, List.set_cons_succ]
    iterate 2
      refine RG.RunsIf.weak (v := ?_) (by rfl) (by rfl) (fun Z hT => ?_) ?_
      rotate_left
      · go_simp
        rfl
      simp only [Act.put, List.setIfInBounds_toArray, List.set_cons_zero, List.set_cons_succ]
    iterate 1
      refine RG.RunsIf.strong (v := ?_) (by rfl) (by kernel_rfl) (by rfl) (fun Z hT hS => ?_) ?_
      rotate_left
      · go_simp
        rfl
      simp only [Act.put, List.setIfInBounds_toArray, List.set_cons_zero, List.set_cons_succ]
    iterate 2
      refine RG.RunsIf.weak (v := ?_) (by rfl) (by rfl) (fun Z hT => ?_) ?_
      rotate_left
      · go_simp
        rfl
      simp only [Act.put, List.setIfInBounds_toArray, List.set_cons_zero, List.set_cons_succ]
    exact RG.RunsIf.nil
  refine RG.wpL_step (i := 18) (by kernel_rfl) (by rfl) (by rfl) (fun K hK => ?_)
  have HK := TW.hide hK
  clear hK
  go_simp
  refine (HMIX.out _).mono ?_
  rintro e w' ⟨rfl, rfl⟩
  refine HK.out _ _ trivial (fun _ => HS.out _ rfl) ?_
  clear HK K
  refine RG.wpL_take (fuel := 7) (a' := ?A2) [19, 20, 21, 22, 23, 24] (by kernel_rfl) (by kernel_rfl) (fun _ _ _ _ _ h => h) trivial (fun _ => HS.out _ rfl) ?r2 ?_
  case r2 =>
    iterate 6
      refine RG.RunsIf.weak (v := ?_) (by rfl) (by rfl) (fun Z hT => ?_) ?_
      rotate_left
      · go_simp
        rfl
      simp only [Act.put, List.setIfInBounds_toArray, List.set_cons_zero, List.set_cons_succ]
    exact RG.RunsIf.nil
  refine RG.wpL_any fun X0 hX => ?_
  have V0 : Hid (X0.heap[B]? = some (.cells (K .u32 vs) 34 (0, 0))) := by show _ = _; rw [hX]; exact V.out
  have R0 : Hid (X0.heap[B + 1]? = some (.cells (K .u32 (List.replicate 16 0)) 34 (0, 0))) := by show _ = _; rw [hX]; exact R.out
  have NB0 : Hid (Below B w X0) := by show Below B w X0; rw [hX]; exact NB.out.trans ⟨rfl, rfl, rfl, Nat.le_refl _, fun _ _ => rfl⟩
  clear HS hX V R NB
  have cc := blk_cellK V0.out (i := p0) (by (try simp only [List.length_set]); omega)
  have cf := blk_frozen V0.out (i := p0)
  refine RG.wpL_late (i := 25) (by kernel_rfl) (by rfl) (by rfl) (by kernel_rfl) (fun K hK => ?_)
  have HK := TW.hide hK
  clear hK
  go_simp
  refine HK.out _ _ trivial ?_
  clear HK K cc cf
  have V1 := TW.hide (blk_setK (i := p0) (x := r0) V0.out)
  have R1 := TW.hide (blk_other (p := B) (o := p0) (u := .int .u32 r0) R0.out (by omega))
  have NB1 := TW.hide (NB0.out.setCell (p := ⟨B, p0, none⟩) (Nat.le_refl B) (.int .u32 r0))
  clear V0 R0 NB0
  generalize X0.setCell ⟨B, p0, none⟩ (.int .u32 r0) = X1 at *
  refine RG.wpL_late (i := 26) (by kernel_rfl) (by rfl) (by rfl) (by kernel_rfl) (fun K hK => ?_)
  have HK := TW.hide hK
  clear hK
  go_simp
  refine HK.out _ _ trivial ?_
  clear HK K
  have cc := blk_cellK V1.out (i := p1) (by (try simp only [List.length_set]); omega)
  have cf := blk_frozen V1.out (i := p1)
  refine RG.wpL_late (i := 27) (by kernel_rfl) (by rfl) (by rfl) (by kernel_rfl) (fun K hK => ?_)
  have HK := TW.hide hK
  clear hK
  go_simp
  refine HK.out _ _ trivial ?_
  clear HK K cc cf
  have V2 := TW.hide (blk_setK (i := p1) (x := r1) V1.out)
  have R2 := TW.hide (blk_other (p := B) (o := p1) (u := .int .u32 r1) R1.out (by omega))
  have NB2 := TW.hide (NB1.out.setCell (p := ⟨B, p1, none⟩) (Nat.le_refl B) (.int .u32 r1))
  clear V1 R1 NB1
  generalize X1.setCell ⟨B, p1, none⟩ (.int .u32 r1) = X2 at *
  refine RG.wpL_late (i := 28) (by kernel_rfl) (by rfl) (by rfl) (by kernel_rfl) (fun K hK => ?_)
  have HK := TW.hide hK
  clear hK
  go_simp
  refine HK.out _ _ trivial ?_
  clear HK K
  have cc := blk_cellK V2.out (i := p2) (by (try simp only [List.length_set]); omega)
  have cf := blk_frozen V2.out (i := p2)
  refine RG.wpL_late (i := 29) (by kernel_rfl) (by rfl) (by rfl) (by kernel_rfl) (fun K hK => ?_)
  have HK := TW.hide hK
  clear hK
  go_simp
  refine HK.out _ _ trivial ?_
  clear HK K cc cf
  have V3 := TW.hide (blk_setK (i := p2) (x := r2) V2.out)
  have R3 := TW.hide (blk_other (p := B) (o := p2) (u := .int .u32 r2) R2.out (by omega))
  have NB3 := TW.hide (NB2.out.setCell (p := ⟨B, p2, none⟩) (Nat.le_refl B) (.int .u32 r2))
  clear V2 R2 NB2
  generalize X2.setCell ⟨B, p2, none⟩ (.int .u32 r2) = X3 at *
  refine RG.wpL_late (i := 30) (by kernel_rfl) (by rfl) (by rfl) (by kernel_rfl) (fun K hK => ?_)
  have HK := TW.hide hK
  clear hK
  go_simp
  refine HK.out _ _ trivial ?_
  clear HK K
  have cc := blk_cellK V3.out (i := p3) (by (try simp only [List.length_set]); omega)
  have cf := blk_frozen V3.out (i := p3)
  refine RG.wpL_late (i := 31) (by kernel_rfl) (by rfl) (by rfl) (by kernel_rfl) (fun K hK => ?_)
  have HK := TW.hide hK
  clear hK
  go_simp
  refine HK.out _ _ trivial ?_
  clear HK K cc cf
  have V4 := TW.hide (blk_setK (i := p3) (x := r3) V3.out)
  have R4 := TW.hide (blk_other (p := B) (o := p3) (u := .int .u32 r3) R3.out (by omega))
  have NB4 := TW.hide (NB3.out.setCell (p := ⟨B, p3, none⟩) (Nat.le_refl B) (.int .u32 r3))
  clear V3 R3 NB3
  generalize X3.setCell ⟨B, p3, none⟩ (.int .u32 r3) = X4 at *
  refine RG.wpL_done (by kernel_rfl) ?_ _
  refine NoPanic.normal ?_
  go_wp2_with (first | (refine wpList_load_row (by rfl) 34 _ (by rfl) (B) (by rfl) 34 (K .u32 ((((vs.set p0 r0).set p1 r1).set p2 r2).set p3 r3)) (0, 0) _ V4.out Tryd.underlying34 rfl IU.out ?_) | (refine wpList_store_row (by rfl) 34 _ _ (by rfl) (B + 1) (K .u32 ((((vs.set p0 r0).set p1 r1).set p2 r2).set p3 r3)) (by rfl) (by rfl) 34 _ R4.out IU.out OU.out (K_one _ _) ?_))
  refine bodyPost_ret (v := .tuple #[.agg (K .u32 ((((vs.set p0 r0).set p1 r1).set p2 r2).set p3 r3)), .int .i64 0]) (results_row_tmp (P := Tryd.prog) Tryd.results15 _ _ (B + 1) 34 _ (0, 0) _ _ (by rfl) (by rfl) (setRow_heap _ _ _ _ _ _ R4.out) Tryd.underlying34 rfl IU.out) rfl ?_
  exact ⟨rfl, below_setRow NB4.out (by omega)⟩
set_option maxRecDepth 100000 in
set_option maxHeartbeats 4000000 in
theorem gNo (vs : List Int) (a b c d x y : Int) (w : World) (hf : fpB a b c d = false) :
    Calls Tryd.prog 15 #[.agg (K .u32 vs), .int .i64 a, .int .i64 b, .int .i64 c, .int .i64 d, .int .u32 x, .int .u32 y] w fun e w' =>
      e = .returned (.tuple #[.agg (K .u32 (List.replicate 16 0)), .int .i64 1]) ∧ Below w.heap.size w w' := by
  have hfour := fun X => fourPlaces a b c d X
  rw [hf] at hfour
  have iu := info16 (List.replicate 16 0) rfl
  have HFOUR := TW.hide hfour
  have IU := TW.hide iu
  clear hfour iu
  clear hf
  have hb := (((Below.refl w.heap.size w).alloc (Nat.le_refl _) (.cells (K .u32 vs) 34)).alloc (by simp; try omega) (.cells (K .u32 (List.replicate 16 0)) 34))
  have n0 := (blk_alloc (o' := .cells (K .u32 (List.replicate 16 0)) 34) (heap_new w (.cells (K .u32 vs) 34)))
  have n1 := (heap_new (w.alloc (.cells (K .u32 vs) 34)) (.cells (K .u32 (List.replicate 16 0)) 34))
  rw [show (w.alloc (.cells (K .u32 vs) 34)).heap.size = w.heap.size + 1 by simp] at n1
  go_enter Tryd.func15, Tryd.ntmps15
  refine wp_seq_k fun K hK => ?_
  have HK := TW.hide hK
  clear hK
  go_wp2
  refine HK.out _ _ ?_
  clear HK K
  change Code.wp _ _ _ _ ((w.alloc (.cells (K .u32 vs) 34)).alloc (.cells (K .u32 (List.replicate 16 0)) 34))
  generalize hWW : (w.alloc (.cells (K .u32 vs) 34)).alloc (.cells (K .u32 (List.replicate 16 0)) 34) = W at hb n0 n1 ⊢
  have hW : W.heap.size = w.heap.size + 1 + 1 := by rw [← hWW]; simp
  clear hWW
  generalize hB : w.heap.size = B at *
  have R0 := TW.hide n1
  have NB0 := TW.hide hb
  clear n1 hb
  clear hW hB n0
  go_wp2_with (first | (go_at_call 30; refine (HFOUR.out _).mono ?_; rintro e w' ⟨rfl, rfl⟩) | (refine wpList_store_row (by rfl) 34 _ _ (by rfl) (B + 1) (K .u32 (List.replicate 16 0)) (by rfl) (by rfl) 34 _ R0.out IU.out rfl (K_one _ _) ?_))
  refine bodyPost_ret (v := .tuple #[.agg (K .u32 (List.replicate 16 0)), .int .i64 1]) (results_row_tmp (P := Tryd.prog) Tryd.results15 _ _ (B + 1) 34 _ (0, 0) _ _ (by rfl) (by rfl) (setRow_heap _ _ _ _ _ _ R0.out) Tryd.underlying34 rfl IU.out) rfl ?_
  exact ⟨rfl, below_setRow NB0.out (by omega)⟩
set_option maxRecDepth 100000 in
set_option maxHeartbeats 8000000 in
theorem uOk (vs : List Int) (p0 p1 p2 p3 : Nat) (x y : Int) (w : World) (hv : vs.length = 16) (hV : Ws vs) (hx : W x) (hy : W y) (b0 : p0 < 16) (b1 : p1 < 16) (b2 : p2 < 16) (b3 : p3 < 16) (d1 : p0 ≠ p1) (d2 : p0 ≠ p2) (d3 : p0 ≠ p3) (d4 : p1 ≠ p2) (d5 : p1 ≠ p3) (d6 : p2 ≠ p3) :
    Calls Tryd.prog 16 #[.agg (K .u32 vs), .int .i64 p0, .int .i64 p1, .int .i64 p2, .int .i64 p3, .int .u32 x, .int .u32 y] w fun e w' =>
      e = .returned (.tuple #[.agg (K .u32 (U4 vs p0 p1 p2 p3 x y)), .int .i64 0]) ∧ Below w.heap.size w w' := by
  have hmix := fun X => unmix (vs.getD p0 0) (vs.getD p1 0) (vs.getD p2 0) (vs.getD p3 0) x y X (hV.get _) (hV.get _) (hV.get _) (hV.get _) hx hy
  have hfour := fun X => fourPlaces (p0 : Int) (p1 : Int) (p2 : Int) (p3 : Int) X
  rw [show fpB (p0 : Int) (p1 : Int) (p2 : Int) (p3 : Int) = true by simp [fpB, pB]; omega] at hfour
  have hlen := U4_length vs p0 p1 p2 p3 x y
  rw [hv] at hlen
  have iu := info16 _ hlen
  have ou := size16 (List.replicate 16 0) _ rfl hlen
  have hG : U4 vs p0 p1 p2 p3 x y = put4 vs p0 p1 p2 p3 (unmixL (vs.getD p0 0) (vs.getD p1 0) (vs.getD p2 0) (vs.getD p3 0) x y) := rfl
  rw [hG] at iu ou ⊢
  clear hG
  generalize unmixL (vs.getD p0 0) (vs.getD p1 0) (vs.getD p2 0) (vs.getD p3 0) x y = q at *
  obtain ⟨r0, r1, r2, r3⟩ := q
  simp only [put4] at *
  obtain ⟨va, hva⟩ : ∃ z, vs.getD p0 0 = z := ⟨_, rfl⟩
  obtain ⟨vb, hvb⟩ : ∃ z, vs.getD p1 0 = z := ⟨_, rfl⟩
  obtain ⟨vc, hvc⟩ : ∃ z, vs.getD p2 0 = z := ⟨_, rfl⟩
  obtain ⟨vd, hvd⟩ : ∃ z, vs.getD p3 0 = z := ⟨_, rfl⟩
  rw [hva, hvb, hvc, hvd] at hmix
  have HMIX := TW.hide hmix
  have HFOUR := TW.hide hfour
  have IU := TW.hide iu
  have OU := TW.hide ou
  have EA := TW.hide hva
  have EB := TW.hide hvb
  have EC := TW.hide hvc
  have ED := TW.hide hvd
  clear hmix hfour iu ou hva hvb hvc hvd
  clear hlen hV hx hy
  have hb := (((Below.refl w.heap.size w).alloc (Nat.le_refl _) (.cells (K .u32 vs) 34)).alloc (by simp; try omega) (.cells (K .u32 (List.replicate 16 0)) 34))
  have n0 := (blk_alloc (o' := .cells (K .u32 (List.replicate 16 0)) 34) (heap_new w (.cells (K .u32 vs) 34)))
  have n1 := (heap_new (w.alloc (.cells (K .u32 vs) 34)) (.cells (K .u32 (List.replicate 16 0)) 34))
  rw [show (w.alloc (.cells (K .u32 vs) 34)).heap.size = w.heap.size + 1 by simp] at n1
  go_enter Tryd.func16, Tryd.ntmps16
  refine wp_seq_k fun K hK => ?_
  have HK := TW.hide hK
  clear hK
  go_wp2
  refine HK.out _ _ ?_
  clear HK K
  change Code.wp _ _ _ _ ((w.alloc (.cells (K .u32 vs) 34)).alloc (.cells (K .u32 (List.replicate 16 0)) 34))
  generalize hWW : (w.alloc (.cells (K .u32 vs) 34)).alloc (.cells (K .u32 (List.replicate 16 0)) 34) = Y at hb n0 n1 ⊢
  have hW : Y.heap.size = w.heap.size + 1 + 1 := by rw [← hWW]; simp
  clear hWW
  generalize hB : w.heap.size = B at *
  have j0 : (p0 : Int) < 16 := by omega
  have j1 : (p1 : Int) < 16 := by omega
  have j2 : (p2 : Int) < 16 := by omega
  have j3 : (p3 : Int) < 16 := by omega
  have c0 := blk_cellK n0 (i := p0) (by omega)
  have c1 := blk_cellK n0 (i := p1) (by omega)
  have c2 := blk_cellK n0 (i := p2) (by omega)
  have c3 := blk_cellK n0 (i := p3) (by omega)
  rw [EA.out] at c0
  rw [EB.out] at c1
  rw [EC.out] at c2
  rw [ED.out] at c3
  have HS : Hid (∀ Z : World, Z.heap = Y.heap → Z.cell? ⟨B, p0, none⟩ = some (.int .u32 va) ∧ Z.cell? ⟨B, p1, none⟩ = some (.int .u32 vb) ∧ Z.cell? ⟨B, p2, none⟩ = some (.int .u32 vc) ∧ Z.cell? ⟨B, p3, none⟩ = some (.int .u32 vd)) := fun Z hZ => by
    simp only [World.cell?, hZ] at c0 c1 c2 c3 ⊢
    exact ⟨c0, c1, c2, c3⟩
  clear c0 c1 c2 c3
  have V := TW.hide n0
  have R := TW.hide n1
  have NB := TW.hide hb
  clear n0 n1 hb
  clear hW hB EA EB EC ED
  go_wp2_with (go_at_call 30; refine (HFOUR.out _).mono ?_; rintro e w' ⟨rfl, rfl⟩)
  refine wp_region_noPanic ?_
  refine RG.wp_region_L (fun Z => Z.cell? ⟨B, p0, none⟩ = some (.int .u32 va) ∧ Z.cell? ⟨B, p1, none⟩ = some (.int .u32 vb) ∧ Z.cell? ⟨B, p2, none⟩ = some (.int .u32 vc) ∧ Z.cell? ⟨B, p3, none⟩ = some (.int .u32 vd)) (fun _ => True) [25, 27, 29, 31] (by kernel_rfl) ?_
  refine RG.wpL_take (fuel := 14) (a' := ?A) [0, 1, 2, 3, 4, 5, 6, 7, 8, 9, 10, 11, 12, 13, 14, 15, 16, 17] (by kernel_rfl) (by kernel_rfl) (fun _ _ _ _ _ h => h) trivial (fun _ => HS.out _ rfl) ?r ?_
  case r =>
    iterate 6
      refine RG.RunsIf.weak (v := ?_) (by rfl) (by rfl) (fun Z hT => ?_) ?_
      rotate_left
      · go_simp
        rfl
      simp only [Act.put, List.setIfInBounds_toArray, List.set_cons_zero, List.set_cons_succ]
    iterate 1
      refine RG.RunsIf.strong (v := ?_) (by rfl) (by kernel_rfl) (by rfl) (fun Z hT hS => ?_) ?_
      rotate_left
      · go_simp
        rfl
      simp only [Act.put, List.setIfInBounds_toArray, List.set_cons_zero, List.set_cons_succ]
    iterate 2
      refine RG.RunsIf.weak (v := ?_) (by rfl) (by rfl) (fun Z hT => ?_) ?_
      rotate_left
      · go_simp
        rfl
      simp only [Act.put, List.setIfInBounds_toArray, List.set_cons_zero, List.set_cons_succ]
    iterate 1
      refine RG.RunsIf.strong (v := ?_) (by rfl) (by kernel_rfl) (by rfl) (fun Z hT hS => ?_) ?_
      rotate_left
      · go_simp
        rfl
      simp only [Act.put, List.setIfInBounds_toArray, List.set_cons_zero, List.set_cons_succ]
    iterate 2
      refine RG.RunsIf.weak (v := ?_) (by rfl) (by rfl) (fun Z hT => ?_) ?_
      rotate_left
      · go_simp
        rfl
      simp only [Act.put, List.setIfInBounds_toArray, List.set_cons_zero, List.set_cons_succ]
    iterate 1
      refine RG.RunsIf.strong (v := ?_) (by rfl) (by kernel_rfl) (by rfl) (fun Z hT hS => ?_) ?_
      rotate_left
      · go_simp
        rfl
      simp only [Act.put, List.setIfInBounds_toArray, List.set_cons_zero, List.set_cons_succ]
    iterate 2
      refine RG.RunsIf.weak (v := ?_) (by rfl) (by rfl) (fun Z hT => ?_) ?_
      rotate_left
      · go_simp
        rfl
      simp only [Act.put, List.setIfInBounds_toArray, List.set_cons_zero, List.set_cons_succ]
    iterate 1
      refine RG.RunsIf.strong (v := ?_) (by rfl) (by kernel_rfl) (by rfl) (fun Z hT hS => ?_) ?_
      rotate_left
      · go_simp
        rfl
      simp only [Act.put, List.setIfInBounds_toArray, List.set_cons_zero, List.set_cons_succ]
    iterate 2
      refine RG.RunsIf.weak (v := ?_) (by rfl) (by rfl) (fun Z hT => ?_) ?_
      rotate_left
      · go_simp
        rfl
      simp only [Act.put, List.setIfInBounds_toArray, List.set_cons_zero, List.set_cons_succ]
    exact RG.RunsIf.nil
  refine RG.wpL_step (i := 18) (by kernel_rfl) (by rfl) (by rfl) (fun K hK => ?_)
  have HK := TW.hide hK
  clear hK
  go_simp
  refine (HMIX.out _).mono ?_
  rintro e w' ⟨rfl, rfl⟩
  refine HK.out _ _ trivial (fun _ => HS.out _ rfl) ?_
  clear HK K
  refine RG.wpL_take (fuel := 7) (a' := ?A2) [19, 20, 21, 22, 23, 24] (by kernel_rfl) (by kernel_rfl) (fun _ _ _ _ _ h => h) trivial (fun _ => HS.out _ rfl) ?r2 ?_
  case r2 =>
    iterate 6
      refine RG.RunsIf.weak (v := ?_) (by rfl) (by rfl) (fun Z hT => ?_) ?_
      rotate_left
      · go_simp
        rfl
      simp only [Act.put, List.setIfInBounds_toArray, List.set_cons_zero, List.set_cons_succ]
    exact RG.RunsIf.nil
  refine RG.wpL_any fun X0 hX => ?_
  have V0 : Hid (X0.heap[B]? = some (.cells (K .u32 vs) 34 (0, 0))) := by show _ = _; rw [hX]; exact V.out
  have R0 : Hid (X0.heap[B + 1]? = some (.cells (K .u32 (List.replicate 16 0)) 34 (0, 0))) := by show _ = _; rw [hX]; exact R.out
  have NB0 : Hid (Below B w X0) := by show Below B w X0; rw [hX]; exact NB.out.trans ⟨rfl, rfl, rfl, Nat.le_refl _, fun _ _ => rfl⟩
  clear HS hX V R NB
  have cc := blk_cellK V0.out (i := p0) (by (try simp only [List.length_set]); omega)
  have cf := blk_frozen V0.out (i := p0)
  refine RG.wpL_late (i := 25) (by kernel_rfl) (by rfl) (by rfl) (by kernel_rfl) (fun K hK => ?_)
  have HK := TW.hide hK
  clear hK
  go_simp
  refine HK.out _ _ trivial ?_
  clear HK K cc cf
  have V1 := TW.hide (blk_setK (i := p0) (x := r0) V0.out)
  have R1 := TW.hide (blk_other (p := B) (o := p0) (u := .int .u32 r0) R0.out (by omega))
  have NB1 := TW.hide (NB0.out.setCell (p := ⟨B, p0, none⟩) (Nat.le_refl B) (.int .u32 r0))
  clear V0 R0 NB0
  generalize X0.setCell ⟨B, p0, none⟩ (.int .u32 r0) = X1 at *
  refine RG.wpL_late (i := 26) (by kernel_rfl) (by rfl) (by rfl) (by kernel_rfl) (fun K hK => ?_)
  have HK := TW.hide hK
  clear hK
  go_simp
  refine HK.out _ _ trivial ?_
  clear HK K
  have cc := blk_cellK V1.out (i := p1) (by (try simp only [List.length_set]); omega)
  have cf := blk_frozen V1.out (i := p1)
  refine RG.wpL_late (i := 27) (by kernel_rfl) (by rfl) (by rfl) (by kernel_rfl) (fun K hK => ?_)
  have HK := TW.hide hK
  clear hK
  go_simp
  refine HK.out _ _ trivial ?_
  clear HK K cc cf
  have V2 := TW.hide (blk_setK (i := p1) (x := r1) V1.out)
  have R2 := TW.hide (blk_other (p := B) (o := p1) (u := .int .u32 r1) R1.out (by omega))
  have NB2 := TW.hide (NB1.out.setCell (p := ⟨B, p1, none⟩) (Nat.le_refl B) (.int .u32 r1))
  clear V1 R1 NB1
  generalize X1.setCell ⟨B, p1, none⟩ (.int .u32 r1) = X2 at *
  refine RG.wpL_late (i := 28) (by kernel_rfl) (by rfl) (by rfl) (by kernel_rfl) (fun K hK => ?_)
  have HK := TW.hide hK
  clear hK
  go_simp
  refine HK.out _ _ trivial ?_
  clear HK K
  have cc := blk_cellK V2.out (i := p2) (by (try simp only [List.length_set]); omega)
  have cf := blk_frozen V2.out (i := p2)
  refine RG.wpL_late (i := 29) (by kernel_rfl) (by rfl) (by rfl) (by kernel_rfl) (fun K hK => ?_)
  have HK := TW.hide hK
  clear hK
  go_simp
  refine HK.out _ _ trivial ?_
  clear HK K cc cf
  have V3 := TW.hide (blk_setK (i := p2) (x := r2) V2.out)
  have R3 := TW.hide (blk_other (p := B) (o := p2) (u := .int .u32 r2) R2.out (by omega))
  have NB3 := TW.hide (NB2.out.setCell (p := ⟨B, p2, none⟩) (Nat.le_refl B) (.int .u32 r2))
  clear V2 R2 NB2
  generalize X2.setCell ⟨B, p2, none⟩ (.int .u32 r2) = X3 at *
  refine RG.wpL_late (i := 30) (by kernel_rfl) (by rfl) (by rfl) (by kernel_rfl) (fun K hK => ?_)
  have HK := TW.hide hK
  clear hK
  go_simp
  refine HK.out _ _ trivial ?_
  clear HK K
  have cc := blk_cellK V3.out (i := p3) (by (try simp only [List.length_set]); omega)
  have cf := blk_frozen V3.out (i := p3)
  refine RG.wpL_late (i := 31) (by kernel_rfl) (by rfl) (by rfl) (by kernel_rfl) (fun K hK => ?_)
  have HK := TW.hide hK
  clear hK
  go_simp
  refine HK.out _ _ trivial ?_
  clear HK K cc cf
  have V4 := TW.hide (blk_setK (i := p3) (x := r3) V3.out)
  have R4 := TW.hide (blk_other (p := B) (o := p3) (u := .int .u32 r3) R3.out (by omega))
  have NB4 := TW.hide (NB3.out.setCell (p := ⟨B, p3, none⟩) (Nat.le_refl B) (.int .u32 r3))
  clear V3 R3 NB3
  generalize X3.setCell ⟨B, p3, none⟩ (.int .u32 r3) = X4 at *
  refine RG.wpL_done (by kernel_rfl) ?_ _
  refine NoPanic.normal ?_
  go_wp2_with (first | (refine wpList_load_row (by rfl) 34 _ (by rfl) (B) (by rfl) 34 (K .u32 ((((vs.set p0 r0).set p1 r1).set p2 r2).set p3 r3)) (0, 0) _ V4.out Tryd.underlying34 rfl IU.out ?_) | (refine wpList_store_row (by rfl) 34 _ _ (by rfl) (B + 1) (K .u32 ((((vs.set p0 r0).set p1 r1).set p2 r2).set p3 r3)) (by rfl) (by rfl) 34 _ R4.out IU.out OU.out (K_one _ _) ?_))
  refine bodyPost_ret (v := .tuple #[.agg (K .u32 ((((vs.set p0 r0).set p1 r1).set p2 r2).set p3 r3)), .int .i64 0]) (results_row_tmp (P := Tryd.prog) Tryd.results16 _ _ (B + 1) 34 _ (0, 0) _ _ (by rfl) (by rfl) (setRow_heap _ _ _ _ _ _ R4.out) Tryd.underlying34 rfl IU.out) rfl ?_
  exact ⟨rfl, below_setRow NB4.out (by omega)⟩
set_option maxRecDepth 100000 in
set_option maxHeartbeats 4000000 in
theorem uNo (vs : List Int) (a b c d x y : Int) (w : World) (hf : fpB a b c d = false) :
    Calls Tryd.prog 16 #[.agg (K .u32 vs), .int .i64 a, .int .i64 b, .int .i64 c, .int .i64 d, .int .u32 x, .int .u32 y] w fun e w' =>
      e = .returned (.tuple #[.agg (K .u32 (List.replicate 16 0)), .int .i64 1]) ∧ Below w.heap.size w w' := by
  have hfour := fun X => fourPlaces a b c d X
  rw [hf] at hfour
  have iu := info16 (List.replicate 16 0) rfl
  have HFOUR := TW.hide hfour
  have IU := TW.hide iu
  clear hfour iu
  clear hf
  have hb := (((Below.refl w.heap.size w).alloc (Nat.le_refl _) (.cells (K .u32 vs) 34)).alloc (by simp; try omega) (.cells (K .u32 (List.replicate 16 0)) 34))
  have n0 := (blk_alloc (o' := .cells (K .u32 (List.replicate 16 0)) 34) (heap_new w (.cells (K .u32 vs) 34)))
  have n1 := (heap_new (w.alloc (.cells (K .u32 vs) 34)) (.cells (K .u32 (List.replicate 16 0)) 34))
  rw [show (w.alloc (.cells (K .u32 vs) 34)).heap.size = w.heap.size + 1 by simp] at n1
  go_enter Tryd.func16, Tryd.ntmps16
  refine wp_seq_k fun K hK => ?_
  have HK := TW.hide hK
  clear hK
  go_wp2
  refine HK.out _ _ ?_
  clear HK K
  change Code.wp _ _ _ _ ((w.alloc (.cells (K .u32 vs) 34)).alloc (.cells (K .u32 (List.replicate 16 0)) 34))
  generalize hWW : (w.alloc (.cells (K .u32 vs) 34)).alloc (.cells (K .u32 (List.replicate 16 0)) 34) = W at hb n0 n1 ⊢
  have hW : W.heap.size = w.heap.size + 1 + 1 := by rw [← hWW]; simp
  clear hWW
  generalize hB : w.heap.size = B at *
  have R0 := TW.hide n1
  have NB0 := TW.hide hb
  clear n1 hb
  clear hW hB n0
  go_wp2_with (first | (go_at_call 30; refine (HFOUR.out _).mono ?_; rintro e w' ⟨rfl, rfl⟩) | (refine wpList_store_row (by rfl) 34 _ _ (by rfl) (B + 1) (K .u32 (List.replicate 16 0)) (by rfl) (by rfl) 34 _ R0.out IU.out rfl (K_one _ _) ?_))
  refine bodyPost_ret (v := .tuple #[.agg (K .u32 (List.replicate 16 0)), .int .i64 1]) (results_row_tmp (P := Tryd.prog) Tryd.results16 _ _ (B + 1) 34 _ (0, 0) _ _ (by rfl) (by rfl) (setRow_heap _ _ _ _ _ _ R0.out) Tryd.underlying34 rfl IU.out) rfl ?_
  exact ⟨rfl, below_setRow NB0.out (by omega)⟩
end MX
end Go.Proofs.YtecepllidmkmhabDoor
