/-
  The notes of a trace take an event: the walk.
-/
import Derived.Test.YtnfimdcpocooiaaTv4
namespace Go.Proofs.Ytnfimdcpocooiaa
open Go.RowKit
set_option linter.unusedVariables false
set_option linter.unusedSimpArgs false
namespace LW
open Mc
set_option maxRecDepth 100000 in
set_option maxHeartbeats 4000000 in
theorem pntake {B g bm : Nat} {v1 v2 : Value} {s : Syst} {pa : Option Addr} {pc : Nat} {ra : Option Addr} {rc : Nat} {p : List Ev} (who op a va : Int) (sh : Bool) (w : World) (h : NtM B w g bm v1 v2 s pa pc ra rc p p) (hf : Tr.FitE s p ⟨who, op, a, va, sh⟩) (hw : i64 who) (ha : i64 a) (hl : p.length ≤ 40000) :
    Calls Try.prog 36 #[.pointer (some ⟨g, 0, none⟩), .agg #[.int .i64 who, .int .i64 op, .int .i64 a, .int .i64 va, .bool sh]] w fun e w' => e = .returned (.tuple #[]) ∧ NtM B w' g bm v1 v2 s pa pc ra rc (p ++ [⟨who, op, a, va, sh⟩]) (p ++ [⟨who, op, a, va, sh⟩]) ∧ Below B w w' := by
  have HM := TW.hide (h.below ((Below.refl w.heap.size w).alloc (Nat.le_refl _) (.cells #[.int .i64 who, .int .i64 op, .int .i64 a, .int .i64 va, .bool sh] 57)))
  have hBw : B ≤ w.heap.size := Nat.le_of_lt (Nat.lt_of_le_of_lt h.hg (blk_lt h.blk))
  have HTk : Hid (∀ W, MpI W bm p → Calls Try.prog 56 #[.map (some bm), .agg #[.int .i64 who, .int .i64 op, .int .i64 a, .int .i64 va, .bool sh]] W fun e w' => e = .returned (.tuple #[]) ∧ MpI w' bm (p ++ [⟨who, op, a, va, sh⟩]) ∧ W.grownBy w' (some bm)) := fun W hW => phtake bm p who op a va sh W hW hw ha (by omega)
  have hfa : ∀ m, Tr.mnC s op = some m → 0 ≤ a ∧ a < m := hf.a
  have hst : op = 14 → va = 0 ∨ (va = (Tr.rnC p : Int) ∧ Tr.rnC p < 512) := hf.st
  clear h hw ha hf
  have hA : Below w.heap.size w (w.alloc (.cells #[.int .i64 who, .int .i64 op, .int .i64 a, .int .i64 va, .bool sh] 57)) := (Below.refl _ _).alloc (Nat.le_refl _) _
  have N1 : Hid ((w.alloc (.cells #[.int .i64 who, .int .i64 op, .int .i64 a, .int .i64 va, .bool sh] 57)).heap[w.heap.size]? = some (.cells #[.int .i64 who, .int .i64 op, .int .i64 a, .int .i64 va, .bool sh] 57 (0, 0))) := heap_alloc_new w _
  have NB := TW.hide hA
  clear hA
  go_enter Try.func36, Try.ntmps36
  refine wp_seq_k fun K hK => ?_
  have HK := TW.hide hK
  clear hK
  go_wp2
  refine HK.out _ _ ?_
  clear HK K
  generalize w.alloc _ = X at *
  refine wp_seq_k fun K hK => ?_
  have HK := TW.hide hK
  clear hK
  refine wp_region_noPanic ?_
  refine RG.wp_region_L (fun Z => Below X.heap.size X Z) (fun Z => True) [5] (by kernel_rfl) ?_
  refine RG.wpL_any fun Yz1 hY => ?_
  have HBz1 : Hid (Below X.heap.size X Yz1) := by rw [hY]; exact below_drewN (Below.refl _ _) 1
  clear hY
  refine RG.wpL_takeS (fuel := 1) (a' := ?Az1) [0, 1, 2, 3, 4] (by kernel_rfl) (by kernel_rfl) (fun _ _ _ _ _ h => h) trivial (HBz1.out) ?rz1 ?_
  case rz1 =>
    refine RG.RunsS.one (v := ?_) (by rfl) (by rfl) (fun Z hT hS => ?_) ?_
    rotate_left
    · go_simp
      rfl
    simp only [Act.put, List.setIfInBounds_toArray, List.set_cons_zero, List.set_cons_succ, List.getElem_toArray, List.getElem_cons_zero, List.getElem_cons_succ]
    refine RG.RunsS.one (v := ?_) (by rfl) (by rfl) (fun Z hT hS => ?_) ?_
    rotate_left
    · go_simp
      rfl
    simp only [Act.put, List.setIfInBounds_toArray, List.set_cons_zero, List.set_cons_succ, List.getElem_toArray, List.getElem_cons_zero, List.getElem_cons_succ]
    refine RG.RunsS.one (v := ?_) (by rfl) (by rfl) (fun Z hT hS => ?_) ?_
    rotate_left
    · go_simp
      rfl
    simp only [Act.put, List.setIfInBounds_toArray, List.set_cons_zero, List.set_cons_succ, List.getElem_toArray, List.getElem_cons_zero, List.getElem_cons_succ]
    refine RG.RunsS.one (v := .map (some bm)) (by rfl) (by rfl) (fun Z hT hS => ?_) ?_
    · obtain ⟨x0, x1, x2, x3, x4, x5, x6, x7, x8⟩ := cellsY9 (HM.out.below hS).blk; obtain ⟨z0, z1, z2, z3, z4⟩ := cellsY5 (blk_keep N1.out hS)
      go_simp
    simp only [Act.put, List.setIfInBounds_toArray, List.set_cons_zero, List.set_cons_succ, List.getElem_toArray, List.getElem_cons_zero, List.getElem_cons_succ]
    refine RG.RunsS.one (v := .agg #[.int .i64 who, .int .i64 op, .int .i64 a, .int .i64 va, .bool sh]) (by rfl) (by rfl) (fun Z hT hS => ?_) ?_
    · obtain ⟨x0, x1, x2, x3, x4, x5, x6, x7, x8⟩ := cellsY9 (HM.out.below hS).blk; obtain ⟨z0, z1, z2, z3, z4⟩ := cellsY5 (blk_keep N1.out hS)
      go_simp
    simp only [Act.put, List.setIfInBounds_toArray, List.set_cons_zero, List.set_cons_succ, List.getElem_toArray, List.getElem_cons_zero, List.getElem_cons_succ]
    exact RG.RunsS.nil
  refine RG.wpL_late (i := 5) (by kernel_rfl) (by rfl) (by rfl) (by kernel_rfl) (fun KX hK => ?_)
  have HK := TW.hide hK
  clear hK
  go_simp
  refine (HTk.out Yz1 (HM.out.below HBz1.out).mp).mono ?_
  rintro e_z1 W1 ⟨rfl, hmp, hgr⟩
  have HM1 := TW.hide ((HM.out.below HBz1.out).grown hgr hmp)
  have N2 : Hid (W1.heap[w.heap.size]? = some (.cells #[.int .i64 who, .int .i64 op, .int .i64 a, .int .i64 va, .bool sh] 57 (0, 0))) := by
    show _ = _
    have hk := blk_keep N1.out HBz1.out
    rw [hgr.block _ (blk_lt hk) (fun e => (HM.out.below HBz1.out).mp.ne hk (by injection e with e; exact e.symm))]
    exact hk
  have NB1 : Hid (Below B w W1) := ((NB.out.mono hBw).trans (HBz1.out.mono (Nat.le_trans hBw NB.out.size))).trans (below_grown hgr HM.out.hm (Nat.le_trans (Nat.le_trans hBw NB.out.size) HBz1.out.size))
  clear hmp hgr HM N1 NB HTk HBz1
  refine HK.out _ _ trivial ?_
  clear HK KX
  try simp only [Act.put, List.setIfInBounds_toArray, List.set_cons_zero, List.set_cons_succ, List.getElem_toArray, List.getElem_cons_zero, List.getElem_cons_succ]
  refine RG.wpL_done (by kernel_rfl) ?_ _
  refine NoPanic.normal ?_
  refine HK.out _ _ ?_
  clear HK K
  obtain ⟨z0, z1, z2, z3, z4⟩ := cellsY5 N2.out
  have hBW : B ≤ W1.heap.size := Nat.le_of_lt (Nat.lt_of_le_of_lt HM1.out.hg (blk_lt HM1.out.blk))
  by_cases h5 : op = 5
  · have k5 : (op == 5) = true := by simp [h5]
    obtain ⟨c, rfl⟩ : ∃ c : Nat, a = (c : Int) := ⟨a.toNat, by have := (hfa _ (by rw [h5]; rfl)).1; omega⟩
    have hcl : c < s.rooms.length := by have := (hfa _ (by rw [h5]; rfl)).2; omega
    have c0 : (0 : Int) ≤ (c : Int) := by omega
    have c1 : (c : Int) < (s.rooms.length : Int) := by omega
    obtain ⟨b, cap, hv, hbB, ⟨cur, hcur⟩, _, y⟩ := own_rw HM1.out.ins c hcl
    have HX : Hid (∀ Y, Below W1.heap.size W1 Y → Y.frozen? ⟨b, c, none⟩ = false ∧ NtM B (Y.setCell ⟨b, c, none⟩ (.int .i64 (((Tr.snC p (c : Int) : Int) - (Tr.tkC p (c : Int) : Int)) + 1))) g bm v1 v2 s pa pc ra rc (p ++ [⟨who, op, (c : Int), va, sh⟩]) (p ++ [⟨who, op, (c : Int), va, sh⟩]) ∧ Below B w (Y.setCell ⟨b, c, none⟩ (.int .i64 (((Tr.snC p (c : Int) : Int) - (Tr.tkC p (c : Int) : Int)) + 1)))) := fun Y hY => by
      refine ⟨?_, (HM1.out.below hY).setIn _ c b cap hv hcl _ ?_ (.inl h5) rfl, (NB1.out.trans (hY.mono hBW)).setCell hbB _⟩
      · have h1 := (HM1.out.below hY).ins
        rw [hv] at h1
        exact h1.frozenAt c
      · unfold inV
        rw [Tr.snC_snoc, Tr.tkC_snoc, if_pos ⟨h5, rfl⟩, if_neg (fun h => by have := h.1; simp at this; omega)]
        congr 1
        omega
    obtain ⟨x0, x1, x2, x3, x4, x5, x6, x7, x8⟩ := cellsY9 HM1.out.blk
    have ew : IntKind.i64.wrap (((Tr.snC p (c : Int) : Int) - (Tr.tkC p (c : Int) : Int)) + 1) = ((Tr.snC p (c : Int) : Int) - (Tr.tkC p (c : Int) : Int)) + 1 := by
      have h1 := Tr.snC_len p (c : Int)
      have h2 := Tr.tkC_len p (c : Int)
      rw [IntKind.wrap_i64]
      omega
    unfold inV at y
    rw [hv] at x6
    clear h5 hfa hst hl hcl hcur HM1 N2 hBw hBW hv
    generalize ((Tr.snC p (c : Int) : Int) - (Tr.tkC p (c : Int) : Int)) = x at *
    go_wp2
    refine wp_region_noPanic ?_
    refine RG.wp_region_L (fun Z => Below W1.heap.size W1 Z) (fun Z => True) [10] (by kernel_rfl) ?_
    refine RG.wpL_any fun Yz2 hY => ?_
    have HBz2 : Hid (Below W1.heap.size W1 Yz2) := by rw [hY]; exact below_drewN (Below.refl _ _) 1
    clear hY
    refine RG.wpL_takeS (fuel := 1) (a' := ?Az2) [0, 1, 2, 3, 4, 5, 6, 7, 8, 9] (by kernel_rfl) (by kernel_rfl) (fun _ _ _ _ _ h => h) trivial (HBz2.out) ?rz2 ?_
    case rz2 =>
      refine RG.RunsS.one (v := ?_) (by rfl) (by rfl) (fun Z hT hS => ?_) ?_
      rotate_left
      · go_simp
        rfl
      simp only [Act.put, List.setIfInBounds_toArray, List.set_cons_zero, List.set_cons_succ, List.getElem_toArray, List.getElem_cons_zero, List.getElem_cons_succ]
      refine RG.RunsS.one (v := ?_) (by rfl) (by rfl) (fun Z hT hS => ?_) ?_
      rotate_left
      · go_simp
        rfl
      simp only [Act.put, List.setIfInBounds_toArray, List.set_cons_zero, List.set_cons_succ, List.getElem_toArray, List.getElem_cons_zero, List.getElem_cons_succ]
      refine RG.RunsS.one (v := ?_) (by rfl) (by rfl) (fun Z hT hS => ?_) ?_
      rotate_left
      · go_simp
        rfl
      simp only [Act.put, List.setIfInBounds_toArray, List.set_cons_zero, List.set_cons_succ, List.getElem_toArray, List.getElem_cons_zero, List.getElem_cons_succ]
      refine RG.RunsS.one (v := .slice (some ⟨b, 0, none⟩) s.rooms.length cap) (by rfl) (by rfl) (fun Z hT hS => ?_) ?_
      · have x6 := keepC hS x6; have x7 := keepC hS x7; have z2 := keepC hS z2; have y := keepC hS y
        go_simp
      simp only [Act.put, List.setIfInBounds_toArray, List.set_cons_zero, List.set_cons_succ, List.getElem_toArray, List.getElem_cons_zero, List.getElem_cons_succ]
      refine RG.RunsS.one (v := ?_) (by rfl) (by rfl) (fun Z hT hS => ?_) ?_
      rotate_left
      · go_simp
        rfl
      simp only [Act.put, List.setIfInBounds_toArray, List.set_cons_zero, List.set_cons_succ, List.getElem_toArray, List.getElem_cons_zero, List.getElem_cons_succ]
      refine RG.RunsS.one (v := .int .i64 (c : Int)) (by rfl) (by rfl) (fun Z hT hS => ?_) ?_
      · have x6 := keepC hS x6; have x7 := keepC hS x7; have z2 := keepC hS z2; have y := keepC hS y
        go_simp
      simp only [Act.put, List.setIfInBounds_toArray, List.set_cons_zero, List.set_cons_succ, List.getElem_toArray, List.getElem_cons_zero, List.getElem_cons_succ]
      refine RG.RunsS.one (v := ?_) (by rfl) (by rfl) (fun Z hT hS => ?_) ?_
      rotate_left
      · go_simp
        rfl
      simp only [Act.put, List.setIfInBounds_toArray, List.set_cons_zero, List.set_cons_succ, List.getElem_toArray, List.getElem_cons_zero, List.getElem_cons_succ]
      refine RG.RunsS.one (v := .int .i64 x) (by rfl) (by rfl) (fun Z hT hS => ?_) ?_
      · have x6 := keepC hS x6; have x7 := keepC hS x7; have z2 := keepC hS z2; have y := keepC hS y
        go_simp
      simp only [Act.put, List.setIfInBounds_toArray, List.set_cons_zero, List.set_cons_succ, List.getElem_toArray, List.getElem_cons_zero, List.getElem_cons_succ]
      refine RG.RunsS.one (v := ?_) (by rfl) (by rfl) (fun Z hT hS => ?_) ?_
      rotate_left
      · go_simp
        rfl
      simp only [Act.put, List.setIfInBounds_toArray, List.set_cons_zero, List.set_cons_succ, List.getElem_toArray, List.getElem_cons_zero, List.getElem_cons_succ]
      refine RG.RunsS.one (v := ?_) (by rfl) (by rfl) (fun Z hT hS => ?_) ?_
      rotate_left
      · go_simp
        rfl
      simp only [Act.put, List.setIfInBounds_toArray, List.set_cons_zero, List.set_cons_succ, List.getElem_toArray, List.getElem_cons_zero, List.getElem_cons_succ]
      exact RG.RunsS.nil
    obtain ⟨fz, hNM, hNB⟩ := HX.out Yz2 HBz2.out
    have cz := keepC HBz2.out y
    have HNM := TW.hide hNM
    have HNB := TW.hide hNB
    clear hNM hNB
    refine RG.wpL_late (i := 10) (by kernel_rfl) (by rfl) (by rfl) (by kernel_rfl) (fun KX hK => ?_)
    have HK := TW.hide hK
    clear hK
    go_simp
    refine HK.out _ _ trivial ?_
    clear HK KX cz fz
    refine RG.wpL_done (by kernel_rfl) ?_ _
    refine NoPanic.normal ?_
    go_end0
    exact ⟨rfl, HNM.out, HNB.out⟩
  have k5 : (op == 5) = false := by simp [h5]
  by_cases h6 : op = 6
  · have k6 : (op == 6) = true := by simp [h6]
    cases sh with
    | true =>
      have HR : Hid (NtM B W1 g bm v1 v2 s pa pc ra rc (p ++ [⟨who, op, a, va, true⟩]) (p ++ [⟨who, op, a, va, true⟩])) := HM1.out.idle _ h5 (fun h => by cases h.2) (fun h => by have h' : op = 7 := h; omega) (fun h => by have h' : op = 14 := h.1; omega)
      have k7 : (op == 7) = false := by simp; omega
      have k14 : (op == 14) = false := by simp; omega
      clear h5 h6 hfa hst hl HM1 N2
      go_wp2
      go_end0
      exact ⟨rfl, HR.out, NB1.out⟩
    | false =>
      obtain ⟨c, rfl⟩ : ∃ c : Nat, a = (c : Int) := ⟨a.toNat, by have := (hfa _ (by rw [h6]; rfl)).1; omega⟩
      have hcl : c < s.rooms.length := by have := (hfa _ (by rw [h6]; rfl)).2; omega
      have c0 : (0 : Int) ≤ (c : Int) := by omega
      have c1 : (c : Int) < (s.rooms.length : Int) := by omega
      obtain ⟨b, cap, hv, hbB, ⟨cur, hcur⟩, _, y⟩ := own_rw HM1.out.ins c hcl
      have HX : Hid (∀ Y, Below W1.heap.size W1 Y → Y.frozen? ⟨b, c, none⟩ = false ∧ NtM B (Y.setCell ⟨b, c, none⟩ (.int .i64 (((Tr.snC p (c : Int) : Int) - (Tr.tkC p (c : Int) : Int)) - 1))) g bm v1 v2 s pa pc ra rc (p ++ [⟨who, op, (c : Int), va, false⟩]) (p ++ [⟨who, op, (c : Int), va, false⟩]) ∧ Below B w (Y.setCell ⟨b, c, none⟩ (.int .i64 (((Tr.snC p (c : Int) : Int) - (Tr.tkC p (c : Int) : Int)) - 1)))) := fun Y hY => by
        refine ⟨?_, (HM1.out.below hY).setIn _ c b cap hv hcl _ ?_ (.inr ⟨h6, rfl⟩) rfl, (NB1.out.trans (hY.mono hBW)).setCell hbB _⟩
        · have h1 := (HM1.out.below hY).ins
          rw [hv] at h1
          exact h1.frozenAt c
        · unfold inV
          rw [Tr.snC_snoc, Tr.tkC_snoc, if_neg (fun h => by have := h.1; simp at this; omega), if_pos ⟨h6, rfl, rfl⟩]
          congr 1
          omega
      obtain ⟨x0, x1, x2, x3, x4, x5, x6, x7, x8⟩ := cellsY9 HM1.out.blk
      have ew : IntKind.i64.wrap (((Tr.snC p (c : Int) : Int) - (Tr.tkC p (c : Int) : Int)) - 1) = ((Tr.snC p (c : Int) : Int) - (Tr.tkC p (c : Int) : Int)) - 1 := by
        have h1 := Tr.snC_len p (c : Int)
        have h2 := Tr.tkC_len p (c : Int)
        rw [IntKind.wrap_i64]
        omega
      unfold inV at y
      rw [hv] at x6
      clear h5 h6 hfa hst hl hcl hcur HM1 N2 hBw hBW hv
      generalize ((Tr.snC p (c : Int) : Int) - (Tr.tkC p (c : Int) : Int)) = x at *
      go_wp2
      refine wp_region_noPanic ?_
      refine RG.wp_region_L (fun Z => Below W1.heap.size W1 Z) (fun Z => True) [10] (by kernel_rfl) ?_
      refine RG.wpL_any fun Yz3 hY => ?_
      have HBz3 : Hid (Below W1.heap.size W1 Yz3) := by rw [hY]; exact below_drewN (Below.refl _ _) 1
      clear hY
      refine RG.wpL_takeS (fuel := 1) (a' := ?Az3) [0, 1, 2, 3, 4, 5, 6, 7, 8, 9] (by kernel_rfl) (by kernel_rfl) (fun _ _ _ _ _ h => h) trivial (HBz3.out) ?rz3 ?_
      case rz3 =>
        refine RG.RunsS.one (v := ?_) (by rfl) (by rfl) (fun Z hT hS => ?_) ?_
        rotate_left
        · go_simp
          rfl
        simp only [Act.put, List.setIfInBounds_toArray, List.set_cons_zero, List.set_cons_succ, List.getElem_toArray, List.getElem_cons_zero, List.getElem_cons_succ]
        refine RG.RunsS.one (v := ?_) (by rfl) (by rfl) (fun Z hT hS => ?_) ?_
        rotate_left
        · go_simp
          rfl
        simp only [Act.put, List.setIfInBounds_toArray, List.set_cons_zero, List.set_cons_succ, List.getElem_toArray, List.getElem_cons_zero, List.getElem_cons_succ]
        refine RG.RunsS.one (v := ?_) (by rfl) (by rfl) (fun Z hT hS => ?_) ?_
        rotate_left
        · go_simp
          rfl
        simp only [Act.put, List.setIfInBounds_toArray, List.set_cons_zero, List.set_cons_succ, List.getElem_toArray, List.getElem_cons_zero, List.getElem_cons_succ]
        refine RG.RunsS.one (v := .slice (some ⟨b, 0, none⟩) s.rooms.length cap) (by rfl) (by rfl) (fun Z hT hS => ?_) ?_
        · have x6 := keepC hS x6; have x7 := keepC hS x7; have z2 := keepC hS z2; have y := keepC hS y
          go_simp
        simp only [Act.put, List.setIfInBounds_toArray, List.set_cons_zero, List.set_cons_succ, List.getElem_toArray, List.getElem_cons_zero, List.getElem_cons_succ]
        refine RG.RunsS.one (v := ?_) (by rfl) (by rfl) (fun Z hT hS => ?_) ?_
        rotate_left
        · go_simp
          rfl
        simp only [Act.put, List.setIfInBounds_toArray, List.set_cons_zero, List.set_cons_succ, List.getElem_toArray, List.getElem_cons_zero, List.getElem_cons_succ]
        refine RG.RunsS.one (v := .int .i64 (c : Int)) (by rfl) (by rfl) (fun Z hT hS => ?_) ?_
        · have x6 := keepC hS x6; have x7 := keepC hS x7; have z2 := keepC hS z2; have y := keepC hS y
          go_simp
        simp only [Act.put, List.setIfInBounds_toArray, List.set_cons_zero, List.set_cons_succ, List.getElem_toArray, List.getElem_cons_zero, List.getElem_cons_succ]
        refine RG.RunsS.one (v := ?_) (by rfl) (by rfl) (fun Z hT hS => ?_) ?_
        rotate_left
        · go_simp
          rfl
        simp only [Act.put, List.setIfInBounds_toArray, List.set_cons_zero, List.set_cons_succ, List.getElem_toArray, List.getElem_cons_zero, List.getElem_cons_succ]
        refine RG.RunsS.one (v := .int .i64 x) (by rfl) (by rfl) (fun Z hT hS => ?_) ?_
        · have x6 := keepC hS x6; have x7 := keepC hS x7; have z2 := keepC hS z2; have y := keepC hS y
          go_simp
        simp only [Act.put, List.setIfInBounds_toArray, List.set_cons_zero, List.set_cons_succ, List.getElem_toArray, List.getElem_cons_zero, List.getElem_cons_succ]
        refine RG.RunsS.one (v := ?_) (by rfl) (by rfl) (fun Z hT hS => ?_) ?_
        rotate_left
        · go_simp
          rfl
        simp only [Act.put, List.setIfInBounds_toArray, List.set_cons_zero, List.set_cons_succ, List.getElem_toArray, List.getElem_cons_zero, List.getElem_cons_succ]
        refine RG.RunsS.one (v := ?_) (by rfl) (by rfl) (fun Z hT hS => ?_) ?_
        rotate_left
        · go_simp
          rfl
        simp only [Act.put, List.setIfInBounds_toArray, List.set_cons_zero, List.set_cons_succ, List.getElem_toArray, List.getElem_cons_zero, List.getElem_cons_succ]
        exact RG.RunsS.nil
      obtain ⟨fz, hNM, hNB⟩ := HX.out Yz3 HBz3.out
      have cz := keepC HBz3.out y
      have HNM := TW.hide hNM
      have HNB := TW.hide hNB
      clear hNM hNB
      refine RG.wpL_late (i := 10) (by kernel_rfl) (by rfl) (by rfl) (by kernel_rfl) (fun KX hK => ?_)
      have HK := TW.hide hK
      clear hK
      go_simp
      refine HK.out _ _ trivial ?_
      clear HK KX cz fz
      refine RG.wpL_done (by kernel_rfl) ?_ _
      refine NoPanic.normal ?_
      go_end0
      exact ⟨rfl, HNM.out, HNB.out⟩
  have k6 : (op == 6) = false := by simp [h6]
  by_cases h7 : op = 7
  · have k7 : (op == 7) = true := by simp [h7]
    obtain ⟨c, rfl⟩ : ∃ c : Nat, a = (c : Int) := ⟨a.toNat, by have := (hfa _ (by rw [h7]; rfl)).1; omega⟩
    have hcl : c < s.rooms.length := by have := (hfa _ (by rw [h7]; rfl)).2; omega
    have c0 : (0 : Int) ≤ (c : Int) := by omega
    have c1 : (c : Int) < (s.rooms.length : Int) := by omega
    obtain ⟨b, cap, hv, hbB, ⟨cur, hcur⟩, _, y⟩ := own_rw HM1.out.cls c hcl
    have HX : Hid (∀ Y, Below W1.heap.size W1 Y → Y.frozen? ⟨b, c, none⟩ = false ∧ NtM B (Y.setCell ⟨b, c, none⟩ (.bool true)) g bm v1 v2 s pa pc ra rc (p ++ [⟨who, op, (c : Int), va, sh⟩]) (p ++ [⟨who, op, (c : Int), va, sh⟩]) ∧ Below B w (Y.setCell ⟨b, c, none⟩ (.bool true))) := fun Y hY => by
      refine ⟨?_, (HM1.out.below hY).setCl _ c b cap hv hcl h7 rfl, (NB1.out.trans (hY.mono hBW)).setCell hbB _⟩
      have h1 := (HM1.out.below hY).cls
      rw [hv] at h1
      exact h1.frozenAt c
    obtain ⟨x0, x1, x2, x3, x4, x5, x6, x7, x8⟩ := cellsY9 HM1.out.blk
    rw [hv] at x7
    clear h5 h6 h7 hfa hst hl hcl hcur HM1 N2 hBw hBW hv
    go_wp2
    refine wp_region_noPanic ?_
    refine RG.wp_region_L (fun Z => Below W1.heap.size W1 Z) (fun Z => True) [7] (by kernel_rfl) ?_
    refine RG.wpL_any fun Yz4 hY => ?_
    have HBz4 : Hid (Below W1.heap.size W1 Yz4) := by rw [hY]; exact below_drewN (Below.refl _ _) 1
    clear hY
    refine RG.wpL_takeS (fuel := 1) (a' := ?Az4) [0, 1, 2, 3, 4, 5, 6] (by kernel_rfl) (by kernel_rfl) (fun _ _ _ _ _ h => h) trivial (HBz4.out) ?rz4 ?_
    case rz4 =>
      refine RG.RunsS.one (v := ?_) (by rfl) (by rfl) (fun Z hT hS => ?_) ?_
      rotate_left
      · go_simp
        rfl
      simp only [Act.put, List.setIfInBounds_toArray, List.set_cons_zero, List.set_cons_succ, List.getElem_toArray, List.getElem_cons_zero, List.getElem_cons_succ]
      refine RG.RunsS.one (v := ?_) (by rfl) (by rfl) (fun Z hT hS => ?_) ?_
      rotate_left
      · go_simp
        rfl
      simp only [Act.put, List.setIfInBounds_toArray, List.set_cons_zero, List.set_cons_succ, List.getElem_toArray, List.getElem_cons_zero, List.getElem_cons_succ]
      refine RG.RunsS.one (v := ?_) (by rfl) (by rfl) (fun Z hT hS => ?_) ?_
      rotate_left
      · go_simp
        rfl
      simp only [Act.put, List.setIfInBounds_toArray, List.set_cons_zero, List.set_cons_succ, List.getElem_toArray, List.getElem_cons_zero, List.getElem_cons_succ]
      refine RG.RunsS.one (v := .slice (some ⟨b, 0, none⟩) s.rooms.length cap) (by rfl) (by rfl) (fun Z hT hS => ?_) ?_
      · have x6 := keepC hS x6; have x7 := keepC hS x7; have z2 := keepC hS z2; have y := keepC hS y
        go_simp
      simp only [Act.put, List.setIfInBounds_toArray, List.set_cons_zero, List.set_cons_succ, List.getElem_toArray, List.getElem_cons_zero, List.getElem_cons_succ]
      refine RG.RunsS.one (v := ?_) (by rfl) (by rfl) (fun Z hT hS => ?_) ?_
      rotate_left
      · go_simp
        rfl
      simp only [Act.put, List.setIfInBounds_toArray, List.set_cons_zero, List.set_cons_succ, List.getElem_toArray, List.getElem_cons_zero, List.getElem_cons_succ]
      refine RG.RunsS.one (v := .int .i64 (c : Int)) (by rfl) (by rfl) (fun Z hT hS => ?_) ?_
      · have x6 := keepC hS x6; have x7 := keepC hS x7; have z2 := keepC hS z2; have y := keepC hS y
        go_simp
      simp only [Act.put, List.setIfInBounds_toArray, List.set_cons_zero, List.set_cons_succ, List.getElem_toArray, List.getElem_cons_zero, List.getElem_cons_succ]
      refine RG.RunsS.one (v := ?_) (by rfl) (by rfl) (fun Z hT hS => ?_) ?_
      rotate_left
      · go_simp
        rfl
      simp only [Act.put, List.setIfInBounds_toArray, List.set_cons_zero, List.set_cons_succ, List.getElem_toArray, List.getElem_cons_zero, List.getElem_cons_succ]
      exact RG.RunsS.nil
    obtain ⟨fz, hNM, hNB⟩ := HX.out Yz4 HBz4.out
    have cz := keepC HBz4.out y
    have HNM := TW.hide hNM
    have HNB := TW.hide hNB
    clear hNM hNB
    refine RG.wpL_late (i := 7) (by kernel_rfl) (by rfl) (by rfl) (by kernel_rfl) (fun KX hK => ?_)
    have HK := TW.hide hK
    clear hK
    go_simp
    refine HK.out _ _ trivial ?_
    clear HK KX cz fz
    refine RG.wpL_done (by kernel_rfl) ?_ _
    refine NoPanic.normal ?_
    go_end0
    exact ⟨rfl, HNM.out, HNB.out⟩
  have k7 : (op == 7) = false := by simp [h7]
  by_cases h14 : op = 14 ∧ va ≠ 0
  · have k14 : (op == 14) = true := by simp [h14.1]
    have kv : 0 < va := by
      rcases hst h14.1 with h | h
      · exact absurd h h14.2
      · have := Tr.rnC_pos p
        omega
    have HX : Hid (NtM B (W1.setCell ⟨g, 5, none⟩ (.int .i64 ((Tr.rnC p : Int) + 1))) g bm v1 v2 s pa pc ra rc (p ++ [⟨who, op, a, va, sh⟩]) (p ++ [⟨who, op, a, va, sh⟩])) := HM1.out.setRn _ h14.1 h14.2
    have HY : Hid (Below B w (W1.setCell ⟨g, 5, none⟩ (.int .i64 ((Tr.rnC p : Int) + 1)))) := NB1.out.setCell HM1.out.hg _
    have fz : W1.frozen? ⟨g, 5, none⟩ = false := frozen_of_row W1 g 5 _ _ HM1.out.blk
    obtain ⟨x0, x1, x2, x3, x4, x5, x6, x7, x8⟩ := cellsY9 HM1.out.blk
    have ew : IntKind.i64.wrap ((Tr.rnC p : Int) + 1) = (Tr.rnC p : Int) + 1 := by
      have h1 := Tr.rnC_len p
      rw [IntKind.wrap_i64]
      omega
    clear h5 h6 h7 h14 hfa hst hl HM1 N2 hBw hBW
    generalize (Tr.rnC p : Int) = x at *
    go_wp2
    go_end0
    exact ⟨rfl, HX.out, HY.out⟩
  have HR : Hid (NtM B W1 g bm v1 v2 s pa pc ra rc (p ++ [⟨who, op, a, va, sh⟩]) (p ++ [⟨who, op, a, va, sh⟩])) := HM1.out.idle _ h5 (fun h => h6 h.1) h7 h14
  clear hfa HM1 N2 hBw hBW h5 h6 h7 hl
  by_cases h14' : op = 14
  · have k14 : (op == 14) = true := by simp [h14']
    have kv : (0 < va) = False := by simp; omega
    clear h14 h14' hst
    go_wp2
    go_end0
    exact ⟨rfl, HR.out, NB1.out⟩
  · have k14 : (op == 14) = false := by simp [h14']
    clear h14 h14' hst
    go_wp2
    go_end0
    exact ⟨rfl, HR.out, NB1.out⟩
end LW
end Go.Proofs.Ytnfimdcpocooiaa
