/-
  What the calls G and Ungroup of the document give: a step on any four places, there and back.
-/
import Derived.Test.YtecepllidmkmhabDoorRinfo
import Derived.Test.YtecepllidmkmhabDoorRPlaces
namespace Go.Proofs.YtecepllidmkmhabDoor
open Go.RowKit
set_option linter.unusedVariables false
set_option linter.unusedSimpArgs false
namespace MX
open Turn
attribute [local go_sem ↓] Go.wp_at_zero Go.wp_at_succ
theorem ad_ad' (a b x : Int) : ad a (ad b x) = IntKind.u32.wrap (IntKind.u32.wrap (a + b) + x) := by unfold ad; simp only [IntKind.wrap_u32]; omega
theorem su_ad' (a b x : Int) : su a (ad b x) = IntKind.u32.wrap (IntKind.u32.wrap (a - b) - x) := by unfold su ad; simp only [IntKind.wrap_u32]; omega
theorem ad_w (a b : Int) : ad a b = IntKind.u32.wrap (a + b) := by unfold ad; rw [IntKind.wrap_u32]
theorem su_w (a b : Int) : su a b = IntKind.u32.wrap (a - b) := by unfold su; rw [IntKind.wrap_u32]
theorem T_7 (a : Int) : T32 a (-7) = T32 a 25 := rfl
theorem T_8 (a : Int) : T32 a (-8) = T32 a 24 := rfl
theorem T_12 (a : Int) : T32 a (-12) = T32 a 20 := rfl
theorem T_16 (a : Int) : T32 a (-16) = T32 a 16 := rfl
theorem sets8 (l : List Int) (p0 p1 p2 p3 : Nat) (A1 B1 C1 D1 A2 B2 C2 D2 : Int) (d1 : p0 ≠ p1) (d2 : p0 ≠ p2) (d3 : p0 ≠ p3) (d4 : p1 ≠ p2) (d5 : p1 ≠ p3) (d6 : p2 ≠ p3) :
    (((((((l.set p0 A1).set p3 D1).set p2 C1).set p1 B1).set p0 A2).set p3 D2).set p2 C2).set p1 B2 = put4 l p0 p1 p2 p3 (A2, B2, C2, D2) := by
  apply List.ext_getElem?
  intro i
  simp only [put4, List.getElem?_set, List.length_set]
  by_cases h0 : p0 = i
  · have e1 : p1 ≠ i := by omega
    have e2 : p2 ≠ i := by omega
    have e3 : p3 ≠ i := by omega
    simp [h0, e1, e2, e3]
  · by_cases h1 : p1 = i
    · have e2 : p2 ≠ i := by omega
      have e3 : p3 ≠ i := by omega
      simp [h0, h1, e2, e3]
    · by_cases h2 : p2 = i
      · have e3 : p3 ≠ i := by omega
        simp [h0, h1, h2, e3]
      · by_cases h3 : p3 = i <;> simp [h0, h1, h2, h3]
theorem sets8u (l : List Int) (p0 p1 p2 p3 : Nat) (A1 B1 C1 D1 A2 B2 C2 D2 : Int) (d1 : p0 ≠ p1) (d2 : p0 ≠ p2) (d3 : p0 ≠ p3) (d4 : p1 ≠ p2) (d5 : p1 ≠ p3) (d6 : p2 ≠ p3) :
    (((((((l.set p1 B1).set p2 C1).set p3 D1).set p0 A1).set p1 B2).set p2 C2).set p3 D2).set p0 A2 = put4 l p0 p1 p2 p3 (A2, B2, C2, D2) := by
  apply List.ext_getElem?
  intro i
  simp only [put4, List.getElem?_set, List.length_set]
  by_cases h0 : p0 = i
  · have e1 : p1 ≠ i := by omega
    have e2 : p2 ≠ i := by omega
    have e3 : p3 ≠ i := by omega
    simp [h0, e1, e2, e3]
  · by_cases h1 : p1 = i
    · have e2 : p2 ≠ i := by omega
      have e3 : p3 ≠ i := by omega
      simp [h0, h1, e2, e3]
    · by_cases h2 : p2 = i
      · have e3 : p3 ≠ i := by omega
        simp [h0, h1, h2, e3]
      · by_cases h3 : p3 = i <;> simp [h0, h1, h2, h3]
set_option maxRecDepth 100000 in
set_option maxHeartbeats 8000000 in
theorem rgOk (vs : List Int) (p0 p1 p2 p3 : Nat) (x y : Int) (w : World) (hv : vs.length = 16) (hV : Ws vs) (hx : W x) (hy : W y) (b0 : p0 < 16) (b1 : p1 < 16) (b2 : p2 < 16) (b3 : p3 < 16)
    (d1 : p0 ≠ p1) (d2 : p0 ≠ p2) (d3 : p0 ≠ p3) (d4 : p1 ≠ p2) (d5 : p1 ≠ p3) (d6 : p2 ≠ p3) :
    Calls Tryd.prog 47 #[.agg (K .u32 vs), .int .i64 p0, .int .i64 p1, .int .i64 p2, .int .i64 p3, .int .u32 x, .int .u32 y] w fun e w' =>
      e = .returned (.tuple #[.agg (K .u32 (G4 vs p0 p1 p2 p3 x y)), .int .i64 0]) ∧ Below w.heap.size w w' := by
  obtain ⟨va, hva⟩ : ∃ z, vs.getD p0 0 = z := ⟨_, rfl⟩
  obtain ⟨vb, hvb⟩ : ∃ z, vs.getD p1 0 = z := ⟨_, rfl⟩
  obtain ⟨vc, hvc⟩ : ∃ z, vs.getD p2 0 = z := ⟨_, rfl⟩
  obtain ⟨vd, hvd⟩ : ∃ z, vs.getD p3 0 = z := ⟨_, rfl⟩
  have wa : W va := hva ▸ hV.get p0
  have wb : W vb := hvb ▸ hV.get p1
  have wc : W vc := hvc ▸ hV.get p2
  have wd : W vd := hvd ▸ hV.get p3
  have hpl := fun X => rplaces (p0 : Int) (p1 : Int) (p2 : Int) (p3 : Int) X
  rw [fpB_of (by omega)] at hpl
  obtain ⟨a1, h1⟩ : ∃ z, ad va (ad vb x) = z := ⟨_, rfl⟩
  obtain ⟨u1, k1⟩ : ∃ z, xo vd a1 = z := ⟨_, rfl⟩
  obtain ⟨d1', h2⟩ : ∃ z, T32 u1 16 = z := ⟨_, rfl⟩
  obtain ⟨c1, h3⟩ : ∃ z, ad vc d1' = z := ⟨_, rfl⟩
  obtain ⟨u2, k2⟩ : ∃ z, xo vb c1 = z := ⟨_, rfl⟩
  obtain ⟨b1', h4⟩ : ∃ z, T32 u2 12 = z := ⟨_, rfl⟩
  obtain ⟨a2, h5⟩ : ∃ z, ad a1 (ad b1' y) = z := ⟨_, rfl⟩
  obtain ⟨u3, k3⟩ : ∃ z, xo d1' a2 = z := ⟨_, rfl⟩
  obtain ⟨d2', h6⟩ : ∃ z, T32 u3 8 = z := ⟨_, rfl⟩
  obtain ⟨c2, h7⟩ : ∃ z, ad c1 d2' = z := ⟨_, rfl⟩
  obtain ⟨u4, k4⟩ : ∃ z, xo b1' c2 = z := ⟨_, rfl⟩
  obtain ⟨b2', h8⟩ : ∃ z, T32 u4 7 = z := ⟨_, rfl⟩
  have hG : G4 vs p0 p1 p2 p3 x y = put4 vs p0 p1 p2 p3 (a2, b2', c2, d2') := by
    simp only [G4, mixL, hva, hvb, hvc, hvd, h1, k1, h2, h3, k2, h4, h5, k3, h6, h7, k4, h8]
  have hsets := sets8 vs p0 p1 p2 p3 a1 b1' c1 d1' a2 b2' c2 d2' d1 d2 d3 d4 d5 d6
  rw [hG, ← hsets]
  have e1 : W a1 := h1 ▸ ad_bd _ _
  have f1 : W u1 := k1 ▸ xo_bd _ _ wd e1
  have e2 : W d1' := h2 ▸ T_bd _ _
  have e3 : W c1 := h3 ▸ ad_bd _ _
  have f2 : W u2 := k2 ▸ xo_bd _ _ wb e3
  have e4 : W b1' := h4 ▸ T_bd _ _
  have e5 : W a2 := h5 ▸ ad_bd _ _
  have f3 : W u3 := k3 ▸ xo_bd _ _ e2 e5
  have e7 : W c2 := h7 ▸ ad_bd _ _
  have f4 : W u4 := k4 ▸ xo_bd _ _ e4 e7
  have t1 := fun X => TW.ref32 u1 16 X f1.1 f1.2 (by omega) (by omega)
  have t2 := fun X => TW.ref32 u2 12 X f2.1 f2.2 (by omega) (by omega)
  have t3 := fun X => TW.ref32 u3 8 X f3.1 f3.2 (by omega) (by omega)
  have t4 := fun X => TW.ref32 u4 7 X f4.1 f4.2 (by omega) (by omega)
  rw [h2] at t1; rw [h4] at t2; rw [h6] at t3; rw [h8] at t4
  rw [ad_ad'] at h1 h5
  rw [ad_w] at h3 h7
  unfold xo at k1 k2 k3 k4
  have hlen : ((((((((vs.set p0 a1).set p3 d1').set p2 c1).set p1 b1').set p0 a2).set p3 d2').set p2 c2).set p1 b2').length = 16 := by simp only [List.length_set]; exact hv
  have iu := info16 _ hlen
  have ou := size16 (List.replicate 16 0) _ rfl hlen
  clear hG hsets h2 h4 h6 h8 e1 e2 e3 e4 e5 e7 f1 f2 f3 f4 wa wb wc wd hx hy hV hlen
  have T1 := TW.hide t1
  have T2 := TW.hide t2
  have T3 := TW.hide t3
  have T4 := TW.hide t4
  have IU := TW.hide iu
  have OU := TW.hide ou
  have HPL := TW.hide hpl
  clear t1 t2 t3 t4 iu ou hpl
  have E00 := TW.hide hva
  have E01 := TW.hide hvb
  have E02 := TW.hide hvc
  have E03 := TW.hide hvd
  clear hva hvb hvc hvd
  have hb := (((Below.refl w.heap.size w).alloc (Nat.le_refl _) (.cells (K .u32 vs) 34)).alloc (by simp; try omega) (.cells (K .u32 (List.replicate 16 0)) 34))
  have n0 := (blk_alloc (o' := .cells (K .u32 (List.replicate 16 0)) 34) (heap_new w (.cells (K .u32 vs) 34)))
  have n1 := (heap_new (w.alloc (.cells (K .u32 vs) 34)) (.cells (K .u32 (List.replicate 16 0)) 34))
  rw [show (w.alloc (.cells (K .u32 vs) 34)).heap.size = w.heap.size + 1 by simp] at n1
  go_enter Tryd.func47, Tryd.ntmps47
  refine wp_seq_k fun K hK => ?_
  have HK := TW.hide hK
  clear hK
  go_wp2
  refine HK.out _ _ ?_
  clear HK K
  change Code.wp _ _ _ _ ((w.alloc (.cells (K .u32 vs) 34)).alloc (.cells (K .u32 (List.replicate 16 0)) 34))
  generalize hWW : (w.alloc (.cells (K .u32 vs) 34)).alloc (.cells (K .u32 (List.replicate 16 0)) 34) = W at hb n0 n1 ⊢
  have hW : W.heap.size = w.heap.size + 1 + 1 := by rw [← hWW]; simp
  clear hWW
  generalize hB : w.heap.size = B at *
  have j0 : (p0 : Int) < 16 := by omega
  have j1 : (p1 : Int) < 16 := by omega
  have j2 : (p2 : Int) < 16 := by omega
  have j3 : (p3 : Int) < 16 := by omega
  have V := TW.hide n0
  have R := TW.hide n1
  have NB := TW.hide hb
  clear n0 n1 hb
  go_wp2_with fail
  refine (HPL.out _).mono ?_
  rintro e Y0 ⟨rfl, hb0⟩
  have V0 := TW.hide (blk_keep V.out hb0)
  have R0 := TW.hide (blk_keep R.out hb0)
  have NB0 : Hid (Below B w Y0) := below_row NB.out hb0 (by omega)
  clear hb0 V R NB HPL hW hB
  go_wp2
  have cx0 := blk_cellK V0.out (i := p0) (by (try simp only [List.length_set]); omega)
  rw [E00.out] at cx0
  have cx1 := blk_cellK V0.out (i := p1) (by (try simp only [List.length_set]); omega)
  rw [E01.out] at cx1
  have HS : Hid (∀ Z : World, Z.heap = Y0.heap → Z.cell? ⟨B, p0, none⟩ = some (.int .u32 va) ∧ Z.cell? ⟨B, p1, none⟩ = some (.int .u32 vb)) := fun Z hZ => by
    simp only [World.cell?, hZ] at cx0 cx1 ⊢
    exact ⟨cx0, cx1⟩
  clear cx0 cx1
  refine wp_region_noPanic ?_
  refine RG.wp_region_L (fun Z => Z.cell? ⟨B, p0, none⟩ = some (.int .u32 va) ∧ Z.cell? ⟨B, p1, none⟩ = some (.int .u32 vb)) (fun _ => True) [11] (by kernel_rfl) ?_
  refine RG.wpL_take (fuel := 1) (a' := ?A0) [0, 1, 2, 3, 4, 5, 6, 7, 8, 9, 10] (by kernel_rfl) (by kernel_rfl) (fun _ _ _ _ _ h => h) trivial (fun _ => HS.out _ rfl) ?r0 ?_
  case r0 =>
    iterate 3
      refine RG.RunsIf.weak (v := ?_) (by rfl) (by rfl) (fun Z hT => ?_) ?_
      rotate_left
      · go_simp
        rfl
      simp only [Act.put, List.setIfInBounds_toArray, List.set_cons_zero, List.set_cons_succ]
    iterate 1
      refine RG.RunsIf.strong (v := ?_) (by rfl) (by kernel_rfl) (by rfl) (fun Z hT hS => ?_) ?_
      rotate_left
      · go_simp
        rfl
      simp only [Act.put, List.setIfInBounds_toArray, List.set_cons_zero, List.set_cons_succ]
    iterate 2
      refine RG.RunsIf.weak (v := ?_) (by rfl) (by rfl) (fun Z hT => ?_) ?_
      rotate_left
      · go_simp
        rfl
      simp only [Act.put, List.setIfInBounds_toArray, List.set_cons_zero, List.set_cons_succ]
    iterate 1
      refine RG.RunsIf.strong (v := ?_) (by rfl) (by kernel_rfl) (by rfl) (fun Z hT hS => ?_) ?_
      rotate_left
      · go_simp
        rfl
      simp only [Act.put, List.setIfInBounds_toArray, List.set_cons_zero, List.set_cons_succ]
    iterate 4
      refine RG.RunsIf.weak (v := ?_) (by rfl) (by rfl) (fun Z hT => ?_) ?_
      rotate_left
      · go_simp
        rfl
      simp only [Act.put, List.setIfInBounds_toArray, List.set_cons_zero, List.set_cons_succ]
    exact RG.RunsIf.nil
  refine RG.wpL_any fun X hX => ?_
  have VX : Hid (X.heap[B]? = some (.cells (K .u32 vs) 34 (0, 0))) := by show _ = _; rw [hX]; exact V0.out
  have RX : Hid (X.heap[B + 1]? = some (.cells (K .u32 (List.replicate 16 0)) 34 (0, 0))) := by show _ = _; rw [hX]; exact R0.out
  have BX : Hid (Below B w X) := by show Below B w X; rw [hX]; exact NB0.out.trans ⟨rfl, rfl, rfl, Nat.le_refl _, fun _ _ => rfl⟩
  clear HS hX V0 R0 NB0
  have cc := blk_cellK VX.out (i := p0) (by (try simp only [List.length_set]); omega)
  have cf := blk_frozen VX.out (i := p0)
  refine RG.wpL_late (i := 11) (by kernel_rfl) (by rfl) (by rfl) (by kernel_rfl) (fun K hK => ?_)
  have HK := TW.hide hK
  clear hK
  go_simp
  refine HK.out _ _ trivial ?_
  clear HK K cc cf
  refine RG.wpL_done (by kernel_rfl) ?_ _
  refine NoPanic.normal ?_
  have V1 := TW.hide (blk_setK (i := p0) (x := a1) VX.out)
  have R1 := TW.hide (blk_other (p := B) (o := p0) (u := .int .u32 a1) RX.out (by omega))
  have NB1 := TW.hide (BX.out.setCell (p := ⟨B, p0, none⟩) (Nat.le_refl B) (.int .u32 a1))
  generalize X.setCell ⟨B, p0, none⟩ (.int .u32 a1) = Y1 at *
  clear VX RX BX
  have E10 : Hid ((vs.set p0 a1).getD p0 0 = a1) := getD_set_same _ _ _ (by (try simp only [List.length_set]); omega)
  have E11 : Hid ((vs.set p0 a1).getD p1 0 = vb) := (getD_set_other _ _ _ _ (by omega)).trans E01.out
  have E12 : Hid ((vs.set p0 a1).getD p2 0 = vc) := (getD_set_other _ _ _ _ (by omega)).trans E02.out
  have E13 : Hid ((vs.set p0 a1).getD p3 0 = vd) := (getD_set_other _ _ _ _ (by omega)).trans E03.out
  clear E00 E01 E02 E03
  go_wp2
  have cx3 := blk_cellK V1.out (i := p3) (by (try simp only [List.length_set]); omega)
  rw [E13.out] at cx3
  have cx0 := blk_cellK V1.out (i := p0) (by (try simp only [List.length_set]); omega)
  rw [E10.out] at cx0
  have HS : Hid (∀ Z : World, Z.heap = Y1.heap → Z.cell? ⟨B, p3, none⟩ = some (.int .u32 vd) ∧ Z.cell? ⟨B, p0, none⟩ = some (.int .u32 a1)) := fun Z hZ => by
    simp only [World.cell?, hZ] at cx3 cx0 ⊢
    exact ⟨cx3, cx0⟩
  clear cx3 cx0
  refine wp_region_noPanic ?_
  refine RG.wp_region_L (fun Z => Z.cell? ⟨B, p3, none⟩ = some (.int .u32 vd) ∧ Z.cell? ⟨B, p0, none⟩ = some (.int .u32 a1)) (fun _ => True) [10] (by kernel_rfl) ?_
  refine RG.wpL_take (fuel := 3) (a' := ?A1) [0, 1, 2, 3, 4, 5, 6, 7] (by kernel_rfl) (by kernel_rfl) (fun _ _ _ _ _ h => h) trivial (fun _ => HS.out _ rfl) ?r1 ?_
  case r1 =>
    iterate 3
      refine RG.RunsIf.weak (v := ?_) (by rfl) (by rfl) (fun Z hT => ?_) ?_
      rotate_left
      · go_simp
        rfl
      simp only [Act.put, List.setIfInBounds_toArray, List.set_cons_zero, List.set_cons_succ]
    iterate 1
      refine RG.RunsIf.strong (v := ?_) (by rfl) (by kernel_rfl) (by rfl) (fun Z hT hS => ?_) ?_
      rotate_left
      · go_simp
        rfl
      simp only [Act.put, List.setIfInBounds_toArray, List.set_cons_zero, List.set_cons_succ]
    iterate 2
      refine RG.RunsIf.weak (v := ?_) (by rfl) (by rfl) (fun Z hT => ?_) ?_
      rotate_left
      · go_simp
        rfl
      simp only [Act.put, List.setIfInBounds_toArray, List.set_cons_zero, List.set_cons_succ]
    iterate 1
      refine RG.RunsIf.strong (v := ?_) (by rfl) (by kernel_rfl) (by rfl) (fun Z hT hS => ?_) ?_
      rotate_left
      · go_simp
        rfl
      simp only [Act.put, List.setIfInBounds_toArray, List.set_cons_zero, List.set_cons_succ]
    iterate 1
      refine RG.RunsIf.weak (v := ?_) (by rfl) (by rfl) (fun Z hT => ?_) ?_
      rotate_left
      · go_simp
        rfl
      simp only [Act.put, List.setIfInBounds_toArray, List.set_cons_zero, List.set_cons_succ]
    exact RG.RunsIf.nil
  refine RG.wpL_step (i := 8) (by kernel_rfl) (by rfl) (by rfl) (fun K hK => ?_)
  have HK := TW.hide hK
  clear hK
  go_simp
  refine (T1.out _).mono ?_
  rintro e w' ⟨rfl, rfl⟩
  refine HK.out _ _ trivial (fun _ => HS.out _ rfl) ?_
  clear HK K
  refine RG.wpL_take (fuel := 1) (a' := ?B1) [9] (by kernel_rfl) (by kernel_rfl) (fun _ _ _ _ _ h => h) trivial (fun _ => HS.out _ rfl) ?s1 ?_
  case s1 =>
    iterate 1
      refine RG.RunsIf.weak (v := ?_) (by rfl) (by rfl) (fun Z hT => ?_) ?_
      rotate_left
      · go_simp
        rfl
      simp only [Act.put, List.setIfInBounds_toArray, List.set_cons_zero, List.set_cons_succ]
    exact RG.RunsIf.nil
  refine RG.wpL_any fun X hX => ?_
  have VX : Hid (X.heap[B]? = some (.cells (K .u32 (vs.set p0 a1)) 34 (0, 0))) := by show _ = _; rw [hX]; exact V1.out
  have RX : Hid (X.heap[B + 1]? = some (.cells (K .u32 (List.replicate 16 0)) 34 (0, 0))) := by show _ = _; rw [hX]; exact R1.out
  have BX : Hid (Below B w X) := by show Below B w X; rw [hX]; exact NB1.out.trans ⟨rfl, rfl, rfl, Nat.le_refl _, fun _ _ => rfl⟩
  clear HS hX V1 R1 NB1
  have cc := blk_cellK VX.out (i := p3) (by (try simp only [List.length_set]); omega)
  have cf := blk_frozen VX.out (i := p3)
  refine RG.wpL_late (i := 10) (by kernel_rfl) (by rfl) (by rfl) (by kernel_rfl) (fun K hK => ?_)
  have HK := TW.hide hK
  clear hK
  go_simp
  refine HK.out _ _ trivial ?_
  clear HK K cc cf
  refine RG.wpL_done (by kernel_rfl) ?_ _
  refine NoPanic.normal ?_
  have V2 := TW.hide (blk_setK (i := p3) (x := d1') VX.out)
  have R2 := TW.hide (blk_other (p := B) (o := p3) (u := .int .u32 d1') RX.out (by omega))
  have NB2 := TW.hide (BX.out.setCell (p := ⟨B, p3, none⟩) (Nat.le_refl B) (.int .u32 d1'))
  generalize X.setCell ⟨B, p3, none⟩ (.int .u32 d1') = Y2 at *
  clear VX RX BX
  have E20 : Hid (((vs.set p0 a1).set p3 d1').getD p0 0 = a1) := (getD_set_other _ _ _ _ (by omega)).trans E10.out
  have E21 : Hid (((vs.set p0 a1).set p3 d1').getD p1 0 = vb) := (getD_set_other _ _ _ _ (by omega)).trans E11.out
  have E22 : Hid (((vs.set p0 a1).set p3 d1').getD p2 0 = vc) := (getD_set_other _ _ _ _ (by omega)).trans E12.out
  have E23 : Hid (((vs.set p0 a1).set p3 d1').getD p3 0 = d1') := getD_set_same _ _ _ (by (try simp only [List.length_set]); omega)
  clear E10 E11 E12 E13
  go_wp2
  have cx2 := blk_cellK V2.out (i := p2) (by (try simp only [List.length_set]); omega)
  rw [E22.out] at cx2
  have cx3 := blk_cellK V2.out (i := p3) (by (try simp only [List.length_set]); omega)
  rw [E23.out] at cx3
  have HS : Hid (∀ Z : World, Z.heap = Y2.heap → Z.cell? ⟨B, p2, none⟩ = some (.int .u32 vc) ∧ Z.cell? ⟨B, p3, none⟩ = some (.int .u32 d1')) := fun Z hZ => by
    simp only [World.cell?, hZ] at cx2 cx3 ⊢
    exact ⟨cx2, cx3⟩
  clear cx2 cx3
  refine wp_region_noPanic ?_
  refine RG.wp_region_L (fun Z => Z.cell? ⟨B, p2, none⟩ = some (.int .u32 vc) ∧ Z.cell? ⟨B, p3, none⟩ = some (.int .u32 d1')) (fun _ => True) [9] (by kernel_rfl) ?_
  refine RG.wpL_take (fuel := 1) (a' := ?A2) [0, 1, 2, 3, 4, 5, 6, 7, 8] (by kernel_rfl) (by kernel_rfl) (fun _ _ _ _ _ h => h) trivial (fun _ => HS.out _ rfl) ?r2 ?_
  case r2 =>
    iterate 3
      refine RG.RunsIf.weak (v := ?_) (by rfl) (by rfl) (fun Z hT => ?_) ?_
      rotate_left
      · go_simp
        rfl
      simp only [Act.put, List.setIfInBounds_toArray, List.set_cons_zero, List.set_cons_succ]
    iterate 1
      refine RG.RunsIf.strong (v := ?_) (by rfl) (by kernel_rfl) (by rfl) (fun Z hT hS => ?_) ?_
      rotate_left
      · go_simp
        rfl
      simp only [Act.put, List.setIfInBounds_toArray, List.set_cons_zero, List.set_cons_succ]
    iterate 2
      refine RG.RunsIf.weak (v := ?_) (by rfl) (by rfl) (fun Z hT => ?_) ?_
      rotate_left
      · go_simp
        rfl
      simp only [Act.put, List.setIfInBounds_toArray, List.set_cons_zero, List.set_cons_succ]
    iterate 1
      refine RG.RunsIf.strong (v := ?_) (by rfl) (by kernel_rfl) (by rfl) (fun Z hT hS => ?_) ?_
      rotate_left
      · go_simp
        rfl
      simp only [Act.put, List.setIfInBounds_toArray, List.set_cons_zero, List.set_cons_succ]
    iterate 2
      refine RG.RunsIf.weak (v := ?_) (by rfl) (by rfl) (fun Z hT => ?_) ?_
      rotate_left
      · go_simp
        rfl
      simp only [Act.put, List.setIfInBounds_toArray, List.set_cons_zero, List.set_cons_succ]
    exact RG.RunsIf.nil
  refine RG.wpL_any fun X hX => ?_
  have VX : Hid (X.heap[B]? = some (.cells (K .u32 ((vs.set p0 a1).set p3 d1')) 34 (0, 0))) := by show _ = _; rw [hX]; exact V2.out
  have RX : Hid (X.heap[B + 1]? = some (.cells (K .u32 (List.replicate 16 0)) 34 (0, 0))) := by show _ = _; rw [hX]; exact R2.out
  have BX : Hid (Below B w X) := by show Below B w X; rw [hX]; exact NB2.out.trans ⟨rfl, rfl, rfl, Nat.le_refl _, fun _ _ => rfl⟩
  clear HS hX V2 R2 NB2
  have cc := blk_cellK VX.out (i := p2) (by (try simp only [List.length_set]); omega)
  have cf := blk_frozen VX.out (i := p2)
  refine RG.wpL_late (i := 9) (by kernel_rfl) (by rfl) (by rfl) (by kernel_rfl) (fun K hK => ?_)
  have HK := TW.hide hK
  clear hK
  go_simp
  refine HK.out _ _ trivial ?_
  clear HK K cc cf
  refine RG.wpL_done (by kernel_rfl) ?_ _
  refine NoPanic.normal ?_
  have V3 := TW.hide (blk_setK (i := p2) (x := c1) VX.out)
  have R3 := TW.hide (blk_other (p := B) (o := p2) (u := .int .u32 c1) RX.out (by omega))
  have NB3 := TW.hide (BX.out.setCell (p := ⟨B, p2, none⟩) (Nat.le_refl B) (.int .u32 c1))
  generalize X.setCell ⟨B, p2, none⟩ (.int .u32 c1) = Y3 at *
  clear VX RX BX
  have E30 : Hid ((((vs.set p0 a1).set p3 d1').set p2 c1).getD p0 0 = a1) := (getD_set_other _ _ _ _ (by omega)).trans E20.out
  have E31 : Hid ((((vs.set p0 a1).set p3 d1').set p2 c1).getD p1 0 = vb) := (getD_set_other _ _ _ _ (by omega)).trans E21.out
  have E32 : Hid ((((vs.set p0 a1).set p3 d1').set p2 c1).getD p2 0 = c1) := getD_set_same _ _ _ (by (try simp only [List.length_set]); omega)
  have E33 : Hid ((((vs.set p0 a1).set p3 d1').set p2 c1).getD p3 0 = d1') := (getD_set_other _ _ _ _ (by omega)).trans E23.out
  clear E20 E21 E22 E23
  go_wp2
  have cx1 := blk_cellK V3.out (i := p1) (by (try simp only [List.length_set]); omega)
  rw [E31.out] at cx1
  have cx2 := blk_cellK V3.out (i := p2) (by (try simp only [List.length_set]); omega)
  rw [E32.out] at cx2
  have HS : Hid (∀ Z : World, Z.heap = Y3.heap → Z.cell? ⟨B, p1, none⟩ = some (.int .u32 vb) ∧ Z.cell? ⟨B, p2, none⟩ = some (.int .u32 c1)) := fun Z hZ => by
    simp only [World.cell?, hZ] at cx1 cx2 ⊢
    exact ⟨cx1, cx2⟩
  clear cx1 cx2
  refine wp_region_noPanic ?_
  refine RG.wp_region_L (fun Z => Z.cell? ⟨B, p1, none⟩ = some (.int .u32 vb) ∧ Z.cell? ⟨B, p2, none⟩ = some (.int .u32 c1)) (fun _ => True) [10] (by kernel_rfl) ?_
  refine RG.wpL_take (fuel := 3) (a' := ?A3) [0, 1, 2, 3, 4, 5, 6, 7] (by kernel_rfl) (by kernel_rfl) (fun _ _ _ _ _ h => h) trivial (fun _ => HS.out _ rfl) ?r3 ?_
  case r3 =>
    iterate 3
      refine RG.RunsIf.weak (v := ?_) (by rfl) (by rfl) (fun Z hT => ?_) ?_
      rotate_left
      · go_simp
        rfl
      simp only [Act.put, List.setIfInBounds_toArray, List.set_cons_zero, List.set_cons_succ]
    iterate 1
      refine RG.RunsIf.strong (v := ?_) (by rfl) (by kernel_rfl) (by rfl) (fun Z hT hS => ?_) ?_
      rotate_left
      · go_simp
        rfl
      simp only [Act.put, List.setIfInBounds_toArray, List.set_cons_zero, List.set_cons_succ]
    iterate 2
      refine RG.RunsIf.weak (v := ?_) (by rfl) (by rfl) (fun Z hT => ?_) ?_
      rotate_left
      · go_simp
        rfl
      simp only [Act.put, List.setIfInBounds_toArray, List.set_cons_zero, List.set_cons_succ]
    iterate 1
      refine RG.RunsIf.strong (v := ?_) (by rfl) (by kernel_rfl) (by rfl) (fun Z hT hS => ?_) ?_
      rotate_left
      · go_simp
        rfl
      simp only [Act.put, List.setIfInBounds_toArray, List.set_cons_zero, List.set_cons_succ]
    iterate 1
      refine RG.RunsIf.weak (v := ?_) (by rfl) (by rfl) (fun Z hT => ?_) ?_
      rotate_left
      · go_simp
        rfl
      simp only [Act.put, List.setIfInBounds_toArray, List.set_cons_zero, List.set_cons_succ]
    exact RG.RunsIf.nil
  refine RG.wpL_step (i := 8) (by kernel_rfl) (by rfl) (by rfl) (fun K hK => ?_)
  have HK := TW.hide hK
  clear hK
  go_simp
  refine (T2.out _).mono ?_
  rintro e w' ⟨rfl, rfl⟩
  refine HK.out _ _ trivial (fun _ => HS.out _ rfl) ?_
  clear HK K
  refine RG.wpL_take (fuel := 1) (a' := ?B3) [9] (by kernel_rfl) (by kernel_rfl) (fun _ _ _ _ _ h => h) trivial (fun _ => HS.out _ rfl) ?s3 ?_
  case s3 =>
    iterate 1
      refine RG.RunsIf.weak (v := ?_) (by rfl) (by rfl) (fun Z hT => ?_) ?_
      rotate_left
      · go_simp
        rfl
      simp only [Act.put, List.setIfInBounds_toArray, List.set_cons_zero, List.set_cons_succ]
    exact RG.RunsIf.nil
  refine RG.wpL_any fun X hX => ?_
  have VX : Hid (X.heap[B]? = some (.cells (K .u32 (((vs.set p0 a1).set p3 d1').set p2 c1)) 34 (0, 0))) := by show _ = _; rw [hX]; exact V3.out
  have RX : Hid (X.heap[B + 1]? = some (.cells (K .u32 (List.replicate 16 0)) 34 (0, 0))) := by show _ = _; rw [hX]; exact R3.out
  have BX : Hid (Below B w X) := by show Below B w X; rw [hX]; exact NB3.out.trans ⟨rfl, rfl, rfl, Nat.le_refl _, fun _ _ => rfl⟩
  clear HS hX V3 R3 NB3
  have cc := blk_cellK VX.out (i := p1) (by (try simp only [List.length_set]); omega)
  have cf := blk_frozen VX.out (i := p1)
  refine RG.wpL_late (i := 10) (by kernel_rfl) (by rfl) (by rfl) (by kernel_rfl) (fun K hK => ?_)
  have HK := TW.hide hK
  clear hK
  go_simp
  refine HK.out _ _ trivial ?_
  clear HK K cc cf
  refine RG.wpL_done (by kernel_rfl) ?_ _
  refine NoPanic.normal ?_
  have V4 := TW.hide (blk_setK (i := p1) (x := b1') VX.out)
  have R4 := TW.hide (blk_other (p := B) (o := p1) (u := .int .u32 b1') RX.out (by omega))
  have NB4 := TW.hide (BX.out.setCell (p := ⟨B, p1, none⟩) (Nat.le_refl B) (.int .u32 b1'))
  generalize X.setCell ⟨B, p1, none⟩ (.int .u32 b1') = Y4 at *
  clear VX RX BX
  have E40 : Hid (((((vs.set p0 a1).set p3 d1').set p2 c1).set p1 b1').getD p0 0 = a1) := (getD_set_other _ _ _ _ (by omega)).trans E30.out
  have E41 : Hid (((((vs.set p0 a1).set p3 d1').set p2 c1).set p1 b1').getD p1 0 = b1') := getD_set_same _ _ _ (by (try simp only [List.length_set]); omega)
  have E42 : Hid (((((vs.set p0 a1).set p3 d1').set p2 c1).set p1 b1').getD p2 0 = c1) := (getD_set_other _ _ _ _ (by omega)).trans E32.out
  have E43 : Hid (((((vs.set p0 a1).set p3 d1').set p2 c1).set p1 b1').getD p3 0 = d1') := (getD_set_other _ _ _ _ (by omega)).trans E33.out
  clear E30 E31 E32 E33
  go_wp2
  have cx0 := blk_cellK V4.out (i := p0) (by (try simp only [List.length_set]); omega)
  rw [E40.out] at cx0
  have cx1 := blk_cellK V4.out (i := p1) (by (try simp only [List.length_set]); omega)
  rw [E41.out] at cx1
  have HS : Hid (∀ Z : World, Z.heap = Y4.heap → Z.cell? ⟨B, p0, none⟩ = some (.int .u32 a1) ∧ Z.cell? ⟨B, p1, none⟩ = some (.int .u32 b1')) := fun Z hZ => by
    simp only [World.cell?, hZ] at cx0 cx1 ⊢
    exact ⟨cx0, cx1⟩
  clear cx0 cx1
  refine wp_region_noPanic ?_
  refine RG.wp_region_L (fun Z => Z.cell? ⟨B, p0, none⟩ = some (.int .u32 a1) ∧ Z.cell? ⟨B, p1, none⟩ = some (.int .u32 b1')) (fun _ => True) [11] (by kernel_rfl) ?_
  refine RG.wpL_take (fuel := 1) (a' := ?A4) [0, 1, 2, 3, 4, 5, 6, 7, 8, 9, 10] (by kernel_rfl) (by kernel_rfl) (fun _ _ _ _ _ h => h) trivial (fun _ => HS.out _ rfl) ?r4 ?_
  case r4 =>
    iterate 3
      refine RG.RunsIf.weak (v := ?_) (by rfl) (by rfl) (fun Z hT => ?_) ?_
      rotate_left
      · go_simp
        rfl
      simp only [Act.put, List.setIfInBounds_toArray, List.set_cons_zero, List.set_cons_succ]
    iterate 1
      refine RG.RunsIf.strong (v := ?_) (by rfl) (by kernel_rfl) (by rfl) (fun Z hT hS => ?_) ?_
      rotate_left
      · go_simp
        rfl
      simp only [Act.put, List.setIfInBounds_toArray, List.set_cons_zero, List.set_cons_succ]
    iterate 2
      refine RG.RunsIf.weak (v := ?_) (by rfl) (by rfl) (fun Z hT => ?_) ?_
      rotate_left
      · go_simp
        rfl
      simp only [Act.put, List.setIfInBounds_toArray, List.set_cons_zero, List.set_cons_succ]
    iterate 1
      refine RG.RunsIf.strong (v := ?_) (by rfl) (by kernel_rfl) (by rfl) (fun Z hT hS => ?_) ?_
      rotate_left
      · go_simp
        rfl
      simp only [Act.put, List.setIfInBounds_toArray, List.set_cons_zero, List.set_cons_succ]
    iterate 4
      refine RG.RunsIf.weak (v := ?_) (by rfl) (by rfl) (fun Z hT => ?_) ?_
      rotate_left
      · go_simp
        rfl
      simp only [Act.put, List.setIfInBounds_toArray, List.set_cons_zero, List.set_cons_succ]
    exact RG.RunsIf.nil
  refine RG.wpL_any fun X hX => ?_
  have VX : Hid (X.heap[B]? = some (.cells (K .u32 ((((vs.set p0 a1).set p3 d1').set p2 c1).set p1 b1')) 34 (0, 0))) := by show _ = _; rw [hX]; exact V4.out
  have RX : Hid (X.heap[B + 1]? = some (.cells (K .u32 (List.replicate 16 0)) 34 (0, 0))) := by show _ = _; rw [hX]; exact R4.out
  have BX : Hid (Below B w X) := by show Below B w X; rw [hX]; exact NB4.out.trans ⟨rfl, rfl, rfl, Nat.le_refl _, fun _ _ => rfl⟩
  clear HS hX V4 R4 NB4
  have cc := blk_cellK VX.out (i := p0) (by (try simp only [List.length_set]); omega)
  have cf := blk_frozen VX.out (i := p0)
  refine RG.wpL_late (i := 11) (by kernel_rfl) (by rfl) (by rfl) (by kernel_rfl) (fun K hK => ?_)
  have HK := TW.hide hK
  clear hK
  go_simp
  refine HK.out _ _ trivial ?_
  clear HK K cc cf
  refine RG.wpL_done (by kernel_rfl) ?_ _
  refine NoPanic.normal ?_
  have V5 := TW.hide (blk_setK (i := p0) (x := a2) VX.out)
  have R5 := TW.hide (blk_other (p := B) (o := p0) (u := .int .u32 a2) RX.out (by omega))
  have NB5 := TW.hide (BX.out.setCell (p := ⟨B, p0, none⟩) (Nat.le_refl B) (.int .u32 a2))
  generalize X.setCell ⟨B, p0, none⟩ (.int .u32 a2) = Y5 at *
  clear VX RX BX
  have E50 : Hid ((((((vs.set p0 a1).set p3 d1').set p2 c1).set p1 b1').set p0 a2).getD p0 0 = a2) := getD_set_same _ _ _ (by (try simp only [List.length_set]); omega)
  have E51 : Hid ((((((vs.set p0 a1).set p3 d1').set p2 c1).set p1 b1').set p0 a2).getD p1 0 = b1') := (getD_set_other _ _ _ _ (by omega)).trans E41.out
  have E52 : Hid ((((((vs.set p0 a1).set p3 d1').set p2 c1).set p1 b1').set p0 a2).getD p2 0 = c1) := (getD_set_other _ _ _ _ (by omega)).trans E42.out
  have E53 : Hid ((((((vs.set p0 a1).set p3 d1').set p2 c1).set p1 b1').set p0 a2).getD p3 0 = d1') := (getD_set_other _ _ _ _ (by omega)).trans E43.out
  clear E40 E41 E42 E43
  go_wp2
  have cx3 := blk_cellK V5.out (i := p3) (by (try simp only [List.length_set]); omega)
  rw [E53.out] at cx3
  have cx0 := blk_cellK V5.out (i := p0) (by (try simp only [List.length_set]); omega)
  rw [E50.out] at cx0
  have HS : Hid (∀ Z : World, Z.heap = Y5.heap → Z.cell? ⟨B, p3, none⟩ = some (.int .u32 d1') ∧ Z.cell? ⟨B, p0, none⟩ = some (.int .u32 a2)) := fun Z hZ => by
    simp only [World.cell?, hZ] at cx3 cx0 ⊢
    exact ⟨cx3, cx0⟩
  clear cx3 cx0
  refine wp_region_noPanic ?_
  refine RG.wp_region_L (fun Z => Z.cell? ⟨B, p3, none⟩ = some (.int .u32 d1') ∧ Z.cell? ⟨B, p0, none⟩ = some (.int .u32 a2)) (fun _ => True) [10] (by kernel_rfl) ?_
  refine RG.wpL_take (fuel := 3) (a' := ?A5) [0, 1, 2, 3, 4, 5, 6, 7] (by kernel_rfl) (by kernel_rfl) (fun _ _ _ _ _ h => h) trivial (fun _ => HS.out _ rfl) ?r5 ?_
  case r5 =>
    iterate 3
      refine RG.RunsIf.weak (v := ?_) (by rfl) (by rfl) (fun Z hT => ?_) ?_
      rotate_left
      · go_simp
        rfl
      simp only [Act.put, List.setIfInBounds_toArray, List.set_cons_zero, List.set_cons_succ]
    iterate 1
      refine RG.RunsIf.strong (v := ?_) (by rfl) (by kernel_rfl) (by rfl) (fun Z hT hS => ?_) ?_
      rotate_left
      · go_simp
        rfl
      simp only [Act.put, List.setIfInBounds_toArray, List.set_cons_zero, List.set_cons_succ]
    iterate 2
      refine RG.RunsIf.weak (v := ?_) (by rfl) (by rfl) (fun Z hT => ?_) ?_
      rotate_left
      · go_simp
        rfl
      simp only [Act.put, List.setIfInBounds_toArray, List.set_cons_zero, List.set_cons_succ]
    iterate 1
      refine RG.RunsIf.strong (v := ?_) (by rfl) (by kernel_rfl) (by rfl) (fun Z hT hS => ?_) ?_
      rotate_left
      · go_simp
        rfl
      simp only [Act.put, List.setIfInBounds_toArray, List.set_cons_zero, List.set_cons_succ]
    iterate 1
      refine RG.RunsIf.weak (v := ?_) (by rfl) (by rfl) (fun Z hT => ?_) ?_
      rotate_left
      · go_simp
        rfl
      simp only [Act.put, List.setIfInBounds_toArray, List.set_cons_zero, List.set_cons_succ]
    exact RG.RunsIf.nil
  refine RG.wpL_step (i := 8) (by kernel_rfl) (by rfl) (by rfl) (fun K hK => ?_)
  have HK := TW.hide hK
  clear hK
  go_simp
  refine (T3.out _).mono ?_
  rintro e w' ⟨rfl, rfl⟩
  refine HK.out _ _ trivial (fun _ => HS.out _ rfl) ?_
  clear HK K
  refine RG.wpL_take (fuel := 1) (a' := ?B5) [9] (by kernel_rfl) (by kernel_rfl) (fun _ _ _ _ _ h => h) trivial (fun _ => HS.out _ rfl) ?s5 ?_
  case s5 =>
    iterate 1
      refine RG.RunsIf.weak (v := ?_) (by rfl) (by rfl) (fun Z hT => ?_) ?_
      rotate_left
      · go_simp
        rfl
      simp only [Act.put, List.setIfInBounds_toArray, List.set_cons_zero, List.set_cons_succ]
    exact RG.RunsIf.nil
  refine RG.wpL_any fun X hX => ?_
  have VX : Hid (X.heap[B]? = some (.cells (K .u32 (((((vs.set p0 a1).set p3 d1').set p2 c1).set p1 b1').set p0 a2)) 34 (0, 0))) := by show _ = _; rw [hX]; exact V5.out
  have RX : Hid (X.heap[B + 1]? = some (.cells (K .u32 (List.replicate 16 0)) 34 (0, 0))) := by show _ = _; rw [hX]; exact R5.out
  have BX : Hid (Below B w X) := by show Below B w X; rw [hX]; exact NB5.out.trans ⟨rfl, rfl, rfl, Nat.le_refl _, fun _ _ => rfl⟩
  clear HS hX V5 R5 NB5
  have cc := blk_cellK VX.out (i := p3) (by (try simp only [List.length_set]); omega)
  have cf := blk_frozen VX.out (i := p3)
  refine RG.wpL_late (i := 10) (by kernel_rfl) (by rfl) (by rfl) (by kernel_rfl) (fun K hK => ?_)
  have HK := TW.hide hK
  clear hK
  go_simp
  refine HK.out _ _ trivial ?_
  clear HK K cc cf
  refine RG.wpL_done (by kernel_rfl) ?_ _
  refine NoPanic.normal ?_
  have V6 := TW.hide (blk_setK (i := p3) (x := d2') VX.out)
  have R6 := TW.hide (blk_other (p := B) (o := p3) (u := .int .u32 d2') RX.out (by omega))
  have NB6 := TW.hide (BX.out.setCell (p := ⟨B, p3, none⟩) (Nat.le_refl B) (.int .u32 d2'))
  generalize X.setCell ⟨B, p3, none⟩ (.int .u32 d2') = Y6 at *
  clear VX RX BX
  have E60 : Hid (((((((vs.set p0 a1).set p3 d1').set p2 c1).set p1 b1').set p0 a2).set p3 d2').getD p0 0 = a2) := (getD_set_other _ _ _ _ (by omega)).trans E50.out
  have E61 : Hid (((((((vs.set p0 a1).set p3 d1').set p2 c1).set p1 b1').set p0 a2).set p3 d2').getD p1 0 = b1') := (getD_set_other _ _ _ _ (by omega)).trans E51.out
  have E62 : Hid (((((((vs.set p0 a1).set p3 d1').set p2 c1).set p1 b1').set p0 a2).set p3 d2').getD p2 0 = c1) := (getD_set_other _ _ _ _ (by omega)).trans E52.out
  have E63 : Hid (((((((vs.set p0 a1).set p3 d1').set p2 c1).set p1 b1').set p0 a2).set p3 d2').getD p3 0 = d2') := getD_set_same _ _ _ (by (try simp only [List.length_set]); omega)
  clear E50 E51 E52 E53
  go_wp2
  have cx2 := blk_cellK V6.out (i := p2) (by (try simp only [List.length_set]); omega)
  rw [E62.out] at cx2
  have cx3 := blk_cellK V6.out (i := p3) (by (try simp only [List.length_set]); omega)
  rw [E63.out] at cx3
  have HS : Hid (∀ Z : World, Z.heap = Y6.heap → Z.cell? ⟨B, p2, none⟩ = some (.int .u32 c1) ∧ Z.cell? ⟨B, p3, none⟩ = some (.int .u32 d2')) := fun Z hZ => by
    simp only [World.cell?, hZ] at cx2 cx3 ⊢
    exact ⟨cx2, cx3⟩
  clear cx2 cx3
  refine wp_region_noPanic ?_
  refine RG.wp_region_L (fun Z => Z.cell? ⟨B, p2, none⟩ = some (.int .u32 c1) ∧ Z.cell? ⟨B, p3, none⟩ = some (.int .u32 d2')) (fun _ => True) [9] (by kernel_rfl) ?_
  refine RG.wpL_take (fuel := 1) (a' := ?A6) [0, 1, 2, 3, 4, 5, 6, 7, 8] (by kernel_rfl) (by kernel_rfl) (fun _ _ _ _ _ h => h) trivial (fun _ => HS.out _ rfl) ?r6 ?_
  case r6 =>
    iterate 3
      refine RG.RunsIf.weak (v := ?_) (by rfl) (by rfl) (fun Z hT => ?_) ?_
      rotate_left
      · go_simp
        rfl
      simp only [Act.put, List.setIfInBounds_toArray, List.set_cons_zero, List.set_cons_succ]
    iterate 1
      refine RG.RunsIf.strong (v := ?_) (by rfl) (by kernel_rfl) (by rfl) (fun Z hT hS => ?_) ?_
      rotate_left
      · go_simp
        rfl
      simp only [Act.put, List.setIfInBounds_toArray, List.set_cons_zero, List.set_cons_succ]
    iterate 2
      refine RG.RunsIf.weak (v := ?_) (by rfl) (by rfl) (fun Z hT => ?_) ?_
      rotate_left
      · go_simp
        rfl
      simp only [Act.put, List.setIfInBounds_toArray, List.set_cons_zero, List.set_cons_succ]
    iterate 1
      refine RG.RunsIf.strong (v := ?_) (by rfl) (by kernel_rfl) (by rfl) (fun Z hT hS => ?_) ?_
      rotate_left
      · go_simp
        rfl
      simp only [Act.put, List.setIfInBounds_toArray, List.set_cons_zero, List.set_cons_succ]
    iterate 2
      refine RG.RunsIf.weak (v := ?_) (by rfl) (by rfl) (fun Z hT => ?_) ?_
      rotate_left
      · go_simp
        rfl
      simp only [Act.put, List.setIfInBounds_toArray, List.set_cons_zero, List.set_cons_succ]
    exact RG.RunsIf.nil
  refine RG.wpL_any fun X hX => ?_
  have VX : Hid (X.heap[B]? = some (.cells (K .u32 ((((((vs.set p0 a1).set p3 d1').set p2 c1).set p1 b1').set p0 a2).set p3 d2')) 34 (0, 0))) := by show _ = _; rw [hX]; exact V6.out
  have RX : Hid (X.heap[B + 1]? = some (.cells (K .u32 (List.replicate 16 0)) 34 (0, 0))) := by show _ = _; rw [hX]; exact R6.out
  have BX : Hid (Below B w X) := by show Below B w X; rw [hX]; exact NB6.out.trans ⟨rfl, rfl, rfl, Nat.le_refl _, fun _ _ => rfl⟩
  clear HS hX V6 R6 NB6
  have cc := blk_cellK VX.out (i := p2) (by (try simp only [List.length_set]); omega)
  have cf := blk_frozen VX.out (i := p2)
  refine RG.wpL_late (i := 9) (by kernel_rfl) (by rfl) (by rfl) (by kernel_rfl) (fun K hK => ?_)
  have HK := TW.hide hK
  clear hK
  go_simp
  refine HK.out _ _ trivial ?_
  clear HK K cc cf
  refine RG.wpL_done (by kernel_rfl) ?_ _
  refine NoPanic.normal ?_
  have V7 := TW.hide (blk_setK (i := p2) (x := c2) VX.out)
  have R7 := TW.hide (blk_other (p := B) (o := p2) (u := .int .u32 c2) RX.out (by omega))
  have NB7 := TW.hide (BX.out.setCell (p := ⟨B, p2, none⟩) (Nat.le_refl B) (.int .u32 c2))
  generalize X.setCell ⟨B, p2, none⟩ (.int .u32 c2) = Y7 at *
  clear VX RX BX
  have E70 : Hid ((((((((vs.set p0 a1).set p3 d1').set p2 c1).set p1 b1').set p0 a2).set p3 d2').set p2 c2).getD p0 0 = a2) := (getD_set_other _ _ _ _ (by omega)).trans E60.out
  have E71 : Hid ((((((((vs.set p0 a1).set p3 d1').set p2 c1).set p1 b1').set p0 a2).set p3 d2').set p2 c2).getD p1 0 = b1') := (getD_set_other _ _ _ _ (by omega)).trans E61.out
  have E72 : Hid ((((((((vs.set p0 a1).set p3 d1').set p2 c1).set p1 b1').set p0 a2).set p3 d2').set p2 c2).getD p2 0 = c2) := getD_set_same _ _ _ (by (try simp only [List.length_set]); omega)
  have E73 : Hid ((((((((vs.set p0 a1).set p3 d1').set p2 c1).set p1 b1').set p0 a2).set p3 d2').set p2 c2).getD p3 0 = d2') := (getD_set_other _ _ _ _ (by omega)).trans E63.out
  clear E60 E61 E62 E63
  go_wp2
  have cx1 := blk_cellK V7.out (i := p1) (by (try simp only [List.length_set]); omega)
  rw [E71.out] at cx1
  have cx2 := blk_cellK V7.out (i := p2) (by (try simp only [List.length_set]); omega)
  rw [E72.out] at cx2
  have HS : Hid (∀ Z : World, Z.heap = Y7.heap → Z.cell? ⟨B, p1, none⟩ = some (.int .u32 b1') ∧ Z.cell? ⟨B, p2, none⟩ = some (.int .u32 c2)) := fun Z hZ => by
    simp only [World.cell?, hZ] at cx1 cx2 ⊢
    exact ⟨cx1, cx2⟩
  clear cx1 cx2
  refine wp_region_noPanic ?_
  refine RG.wp_region_L (fun Z => Z.cell? ⟨B, p1, none⟩ = some (.int .u32 b1') ∧ Z.cell? ⟨B, p2, none⟩ = some (.int .u32 c2)) (fun _ => True) [10] (by kernel_rfl) ?_
  refine RG.wpL_take (fuel := 3) (a' := ?A7) [0, 1, 2, 3, 4, 5, 6, 7] (by kernel_rfl) (by kernel_rfl) (fun _ _ _ _ _ h => h) trivial (fun _ => HS.out _ rfl) ?r7 ?_
  case r7 =>
    iterate 3
      refine RG.RunsIf.weak (v := ?_) (by rfl) (by rfl) (fun Z hT => ?_) ?_
      rotate_left
      · go_simp
        rfl
      simp only [Act.put, List.setIfInBounds_toArray, List.set_cons_zero, List.set_cons_succ]
    iterate 1
      refine RG.RunsIf.strong (v := ?_) (by rfl) (by kernel_rfl) (by rfl) (fun Z hT hS => ?_) ?_
      rotate_left
      · go_simp
        rfl
      simp only [Act.put, List.setIfInBounds_toArray, List.set_cons_zero, List.set_cons_succ]
    iterate 2
      refine RG.RunsIf.weak (v := ?_) (by rfl) (by rfl) (fun Z hT => ?_) ?_
      rotate_left
      · go_simp
        rfl
      simp only [Act.put, List.setIfInBounds_toArray, List.set_cons_zero, List.set_cons_succ]
    iterate 1
      refine RG.RunsIf.strong (v := ?_) (by rfl) (by kernel_rfl) (by rfl) (fun Z hT hS => ?_) ?_
      rotate_left
      · go_simp
        rfl
      simp only [Act.put, List.setIfInBounds_toArray, List.set_cons_zero, List.set_cons_succ]
    iterate 1
      refine RG.RunsIf.weak (v := ?_) (by rfl) (by rfl) (fun Z hT => ?_) ?_
      rotate_left
      · go_simp
        rfl
      simp only [Act.put, List.setIfInBounds_toArray, List.set_cons_zero, List.set_cons_succ]
    exact RG.RunsIf.nil
  refine RG.wpL_step (i := 8) (by kernel_rfl) (by rfl) (by rfl) (fun K hK => ?_)
  have HK := TW.hide hK
  clear hK
  go_simp
  refine (T4.out _).mono ?_
  rintro e w' ⟨rfl, rfl⟩
  refine HK.out _ _ trivial (fun _ => HS.out _ rfl) ?_
  clear HK K
  refine RG.wpL_take (fuel := 1) (a' := ?B7) [9] (by kernel_rfl) (by kernel_rfl) (fun _ _ _ _ _ h => h) trivial (fun _ => HS.out _ rfl) ?s7 ?_
  case s7 =>
    iterate 1
      refine RG.RunsIf.weak (v := ?_) (by rfl) (by rfl) (fun Z hT => ?_) ?_
      rotate_left
      · go_simp
        rfl
      simp only [Act.put, List.setIfInBounds_toArray, List.set_cons_zero, List.set_cons_succ]
    exact RG.RunsIf.nil
  refine RG.wpL_any fun X hX => ?_
  have VX : Hid (X.heap[B]? = some (.cells (K .u32 (((((((vs.set p0 a1).set p3 d1').set p2 c1).set p1 b1').set p0 a2).set p3 d2').set p2 c2)) 34 (0, 0))) := by show _ = _; rw [hX]; exact V7.out
  have RX : Hid (X.heap[B + 1]? = some (.cells (K .u32 (List.replicate 16 0)) 34 (0, 0))) := by show _ = _; rw [hX]; exact R7.out
  have BX : Hid (Below B w X) := by show Below B w X; rw [hX]; exact NB7.out.trans ⟨rfl, rfl, rfl, Nat.le_refl _, fun _ _ => rfl⟩
  clear HS hX V7 R7 NB7
  have cc := blk_cellK VX.out (i := p1) (by (try simp only [List.length_set]); omega)
  have cf := blk_frozen VX.out (i := p1)
  refine RG.wpL_late (i := 10) (by kernel_rfl) (by rfl) (by rfl) (by kernel_rfl) (fun K hK => ?_)
  have HK := TW.hide hK
  clear hK
  go_simp
  refine HK.out _ _ trivial ?_
  clear HK K cc cf
  refine RG.wpL_done (by kernel_rfl) ?_ _
  refine NoPanic.normal ?_
  have V8 := TW.hide (blk_setK (i := p1) (x := b2') VX.out)
  have R8 := TW.hide (blk_other (p := B) (o := p1) (u := .int .u32 b2') RX.out (by omega))
  have NB8 := TW.hide (BX.out.setCell (p := ⟨B, p1, none⟩) (Nat.le_refl B) (.int .u32 b2'))
  generalize X.setCell ⟨B, p1, none⟩ (.int .u32 b2') = Y8 at *
  clear VX RX BX
  have E80 : Hid (((((((((vs.set p0 a1).set p3 d1').set p2 c1).set p1 b1').set p0 a2).set p3 d2').set p2 c2).set p1 b2').getD p0 0 = a2) := (getD_set_other _ _ _ _ (by omega)).trans E70.out
  have E81 : Hid (((((((((vs.set p0 a1).set p3 d1').set p2 c1).set p1 b1').set p0 a2).set p3 d2').set p2 c2).set p1 b2').getD p1 0 = b2') := getD_set_same _ _ _ (by (try simp only [List.length_set]); omega)
  have E82 : Hid (((((((((vs.set p0 a1).set p3 d1').set p2 c1).set p1 b1').set p0 a2).set p3 d2').set p2 c2).set p1 b2').getD p2 0 = c2) := (getD_set_other _ _ _ _ (by omega)).trans E72.out
  have E83 : Hid (((((((((vs.set p0 a1).set p3 d1').set p2 c1).set p1 b1').set p0 a2).set p3 d2').set p2 c2).set p1 b2').getD p3 0 = d2') := (getD_set_other _ _ _ _ (by omega)).trans E73.out
  clear E70 E71 E72 E73
  go_wp2_with (first | (refine wpList_load_row (by rfl) 34 _ (by rfl) (B) (by rfl) 34 (K .u32 ((((((((vs.set p0 a1).set p3 d1').set p2 c1).set p1 b1').set p0 a2).set p3 d2').set p2 c2).set p1 b2')) (0, 0) _ V8.out Tryd.underlying34 rfl IU.out ?_) | (refine wpList_store_row (by rfl) 34 _ _ (by rfl) (B + 1) (K .u32 ((((((((vs.set p0 a1).set p3 d1').set p2 c1).set p1 b1').set p0 a2).set p3 d2').set p2 c2).set p1 b2')) (by rfl) (by rfl) 34 _ R8.out IU.out OU.out (K_one _ _) ?_))
  refine bodyPost_ret (v := .tuple #[.agg (K .u32 ((((((((vs.set p0 a1).set p3 d1').set p2 c1).set p1 b1').set p0 a2).set p3 d2').set p2 c2).set p1 b2')), .int .i64 0]) (results_row_tmp (P := Tryd.prog) Tryd.results47 _ _ (B + 1) 34 _ (0, 0) _ _ (by rfl) (by rfl) (setRow_heap _ _ _ _ _ _ R8.out) Tryd.underlying34 rfl IU.out) rfl ?_
  exact ⟨rfl, below_setRow NB8.out (by omega)⟩
set_option maxRecDepth 100000 in
set_option maxHeartbeats 4000000 in
theorem rgNo (vs : List Int) (a b c d x y : Int) (w : World) (hf : fpB a b c d = false) :
    Calls Tryd.prog 47 #[.agg (K .u32 vs), .int .i64 a, .int .i64 b, .int .i64 c, .int .i64 d, .int .u32 x, .int .u32 y] w fun e w' =>
      e = .returned (.tuple #[.agg (K .u32 (List.replicate 16 0)), .int .i64 1]) ∧ Below w.heap.size w w' := by
  have hpl := fun X => rplaces a b c d X
  rw [hf] at hpl
  have iu := info16 (List.replicate 16 0) rfl
  have HPL := TW.hide hpl
  have IU := TW.hide iu
  clear hpl iu
  clear hf
  have hb := (((Below.refl w.heap.size w).alloc (Nat.le_refl _) (.cells (K .u32 vs) 34)).alloc (by simp; try omega) (.cells (K .u32 (List.replicate 16 0)) 34))
  have n0 := (blk_alloc (o' := .cells (K .u32 (List.replicate 16 0)) 34) (heap_new w (.cells (K .u32 vs) 34)))
  have n1 := (heap_new (w.alloc (.cells (K .u32 vs) 34)) (.cells (K .u32 (List.replicate 16 0)) 34))
  rw [show (w.alloc (.cells (K .u32 vs) 34)).heap.size = w.heap.size + 1 by simp] at n1
  go_enter Tryd.func47, Tryd.ntmps47
  refine wp_seq_k fun K hK => ?_
  have HK := TW.hide hK
  clear hK
  go_wp2
  refine HK.out _ _ ?_
  clear HK K
  change Code.wp _ _ _ _ ((w.alloc (.cells (K .u32 vs) 34)).alloc (.cells (K .u32 (List.replicate 16 0)) 34))
  generalize hWW : (w.alloc (.cells (K .u32 vs) 34)).alloc (.cells (K .u32 (List.replicate 16 0)) 34) = W at hb n0 n1 ⊢
  have hW : W.heap.size = w.heap.size + 1 + 1 := by rw [← hWW]; simp
  clear hWW
  generalize hB : w.heap.size = B at *
  have R := TW.hide n1
  have NB := TW.hide hb
  clear n1 hb
  clear n0
  go_wp2_with fail
  refine (HPL.out _).mono ?_
  rintro e Y0 ⟨rfl, hb0⟩
  have R0 := TW.hide (blk_keep R.out hb0)
  have NB0 : Hid (Below B w Y0) := below_row NB.out hb0 (by omega)
  clear hb0 R NB HPL hW hB
  go_wp2_with (refine wpList_store_row (by rfl) 34 _ _ (by rfl) (B + 1) (K .u32 (List.replicate 16 0)) (by rfl) (by rfl) 34 _ R0.out IU.out rfl (K_one _ _) ?_)
  refine bodyPost_ret (v := .tuple #[.agg (K .u32 (List.replicate 16 0)), .int .i64 1]) (results_row_tmp (P := Tryd.prog) Tryd.results47 _ _ (B + 1) 34 _ (0, 0) _ _ (by rfl) (by rfl) (setRow_heap _ _ _ _ _ _ R0.out) Tryd.underlying34 rfl IU.out) rfl ?_
  exact ⟨rfl, below_setRow NB0.out (by omega)⟩
end MX
end Go.Proofs.YtecepllidmkmhabDoor
