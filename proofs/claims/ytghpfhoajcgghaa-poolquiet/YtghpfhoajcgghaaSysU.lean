/-
  What shared of the document's machine does: cells.
-/
import Derived.Test.YtghpfhoajcgghaaSysS
namespace Go.Proofs.Ytghpfhoajcgghaa
open Go.RowKit
set_option linter.unusedVariables false
set_option linter.unusedSimpArgs false
namespace LW
open Mc
theorem rrest (n m : Int) (w : World) (hm : 0 < m) (hm2 : m < 1000) :
    Calls Try.prog 21 #[.int .i64 n, .int .i64 m] w fun e w' => e = .returned (.int .i64 (n % m)) ∧ w = w' := by
  have ht : n.tmod m = n % m ∨ n.tmod m = n % m - m ∧ 0 < n % m := by
    rw [Int.tmod_eq_emod]
    have := Int.emod_nonneg n (show m ≠ 0 by omega)
    have h3 : (m.natAbs : Int) = m := by omega
    split
    · left; omega
    · rename_i h
      right
      refine ⟨by omega, ?_⟩
      have : n % m ≠ 0 := fun h0 => h (.inr (Int.dvd_of_emod_eq_zero h0))
      omega
  have hl := Int.emod_nonneg n (show m ≠ 0 by omega)
  have hu := Int.emod_lt_of_pos n hm
  generalize hR : n % m = r at *
  clear hR
  go_enter Try.func21, Try.ntmps21
  go_wp2
  · go_ret
    exact ⟨TW.ret_int (by omega), rfl⟩
  · go_ret
    exact ⟨TW.ret_int (by omega), rfl⟩
set_option maxRecDepth 100000 in
set_option maxHeartbeats 4000000 in
theorem rread {o : World} {g : Nat} {s : Syst} {pa : Option Addr} {pc : Nat} {ra : Option Addr} {rc : Nat} {t : St} {m : WV} (k c r : Nat) (a2 : Int) (ge : Nat) (w : World) (h : WM o w g s pa pc ra rc t m) (hk : k < t.rns.length) (hc : c < 8) (hr : r < 8) (h8 : (Mc.rn t k).regs.length = 8) (hC : 0 < t.cells.length) (hC2 : t.cells.length ≤ 64) (hE : EvB w ge ⟨k, 12, c, 0, false⟩) (hB : o.heap.size ≤ ge) (hn : m.ev.ownBlock ≠ some ge) :
    Calls Try.prog 39 #[.pointer (some ⟨g, 0, none⟩), .int .i64 k, .agg #[.int .i64 12, .int .i64 (c : Int), .int .i64 (r : Int), .int .i64 a2], .pointer (some ⟨ge, 0, none⟩)] w (ChP o g s pa pc ra rc m ge k 12 (⟨rest (reg t k (c : Int)) t.cells.length, t.cells.getD (rest (reg t k (c : Int)) t.cells.length).toNat 0, false, 0, { t with rns := setR t k (r : Int) (t.cells.getD (rest (reg t k (c : Int)) t.cells.length).toNat 0) }⟩)) := by
  have HM := TW.hide h
  have HE := TW.hide hE
  have HB := TW.hide hB
  have HN := TW.hide hn
  clear h hE hB hn
  generalize hP : ChP o g s pa pc ra rc m ge k _ _ = POST
  have HP := TW.hide hP
  clear hP
  obtain ⟨ci, hci, hcl⟩ : ∃ ci : Nat, rest (reg t k (c : Int)) t.cells.length = (ci : Int) ∧ ci < t.cells.length := by
    have h1 := Int.emod_nonneg (reg t k (c : Int)) (show (t.cells.length : Int) ≠ 0 by omega)
    have h2 := Int.emod_lt_of_pos (reg t k (c : Int)) (show (0 : Int) < t.cells.length by omega)
    exact ⟨(rest (reg t k (c : Int)) t.cells.length).toNat, by unfold rest; omega, by unfold rest; omega⟩
  have HRR : Hid (∀ W, Calls Try.prog 21 #[.int .i64 (reg t k (c : Int)), .int .i64 (t.cells.length : Int)] W fun e w' => e = .returned (.int .i64 (ci : Int)) ∧ W = w') := fun W => by
    have := rrest (reg t k (c : Int)) t.cells.length W (by omega) (by omega)
    unfold rest at hci
    rwa [hci] at this
  rw [hci, Int.toNat_natCast] at HP
  have hA0 : Below w.heap.size w (w.alloc (.cells #[.int .i64 12, .int .i64 (c : Int), .int .i64 (r : Int), .int .i64 a2] 53)) := (Below.refl _ _).alloc (Nat.le_refl _) _
  have NI0 : (w.alloc (.cells #[.int .i64 12, .int .i64 (c : Int), .int .i64 (r : Int), .int .i64 a2] 53)).heap[w.heap.size]? = some (.cells #[.int .i64 12, .int .i64 (c : Int), .int .i64 (r : Int), .int .i64 a2] 53 (0, 0)) := heap_alloc_new w _
  go_enter Try.func39, Try.ntmps39
  refine wp_seq_k fun K hK => ?_
  have HK := TW.hide hK
  clear hK
  go_wp2
  refine HK.out _ _ ?_
  clear HK K
  have HMV := TW.hide (HM.out.below hA0)
  have HEV := TW.hide (HE.out.below hA0)
  have HI := TW.hide NI0
  clear hA0 NI0 HM HE
  generalize (w.alloc (.cells #[.int .i64 12, .int .i64 (c : Int), .int .i64 (r : Int), .int .i64 a2] 53)) = V at *
  generalize w.heap.size = gi at *
  obtain ⟨z0, z1, z2, z3⟩ := cellsY4 HI.out
  obtain ⟨rb, rcap, e5, hrbB, x1⟩ := HMV.out.reg1 k hk c hc
  have c5 := HMV.out.c5
  rw [e5] at c5
  obtain ⟨cb, ccap, e10, hcbB, _, x3⟩ := HMV.out.ce1 ci hcl
  have c10 := HMV.out.c10
  rw [e10] at c10
  have k1 : (k : Int) < (t.rns.length : Int) := by omega
  have k0 : (0 : Int) ≤ (k : Int) := by omega
  have r1 : (r : Int) < 8 := by omega
  have r0 : (0 : Int) ≤ (r : Int) := by omega
  have q1 : (c : Int) < 8 := by omega
  have q0 : (0 : Int) ≤ (c : Int) := by omega
  have i1 : (ci : Int) < (t.cells.length : Int) := by omega
  have i0 : (0 : Int) ≤ (ci : Int) := by omega
  have HCA : Hid (∀ W, WM o W g s pa pc ra rc t m → W.frozen? ⟨cb, ci, none⟩ = false ∧ W.cell? ⟨cb, ci, none⟩ = some (.int .i64 (t.cells.getD ci 0))) := fun W hW => ce1_at hW hcl e10
  have HRg : Hid (∀ W, WM o W g s pa pc ra rc t m → W.cell? ⟨rb, k * 11 + 2 + r, none⟩ = some (.int .i64 (reg t k (r : Int)))) := fun W hW => by
    obtain ⟨b', cp, e', _, hh⟩ := hW.reg1 k hk r hr
    rw [e5] at e'
    injection e' with e1
    injection e1 with e1
    injection e1 with e1
    subst e1
    exact hh
  generalize hnn : t.rns.length = n at e5 c5 k1
  generalize hcn : t.cells.length = cn at e10 c10 i1 HRR
  generalize reg t k (c : Int) = x0 at x1 HRR
  clear x3 hci
  generalize t.cells.getD ci 0 = v0 at *
  go_wp2
  refine wp_region_noPanic ?_
  refine RG.wp_region_L (fun Z => Below V.heap.size V Z) (fun Z => True) [20] (by kernel_rfl) ?_
  refine RG.wpL_any fun Ya hY => ?_
  have HBa : Hid (Below V.heap.size V Ya) := by rw [hY]; exact below_drewN (Below.refl _ _) 1
  clear hY
  refine RG.wpL_take (fuel := 4) (a' := ?Aa) [0, 1, 2, 3, 4, 5, 6, 7, 8, 9, 10, 11, 12, 13, 14, 15, 16] (by kernel_rfl) (by kernel_rfl) (fun _ _ _ _ _ h => h) trivial (fun _ => HBa.out) ?ra ?_
  case ra =>
    refine RG.RunsIf.weak (v := ?_) (by rfl) (by rfl) (fun Z hT => ?_) ?_
    rotate_left
    · go_simp
      rfl
    simp only [Act.put, List.setIfInBounds_toArray, List.set_cons_zero, List.set_cons_succ, List.getElem_toArray, List.getElem_cons_zero, List.getElem_cons_succ]
    refine RG.RunsIf.weak (v := ?_) (by rfl) (by rfl) (fun Z hT => ?_) ?_
    rotate_left
    · go_simp
      rfl
    simp only [Act.put, List.setIfInBounds_toArray, List.set_cons_zero, List.set_cons_succ, List.getElem_toArray, List.getElem_cons_zero, List.getElem_cons_succ]
    refine RG.RunsIf.weak (v := ?_) (by rfl) (by rfl) (fun Z hT => ?_) ?_
    rotate_left
    · go_simp
      rfl
    simp only [Act.put, List.setIfInBounds_toArray, List.set_cons_zero, List.set_cons_succ, List.getElem_toArray, List.getElem_cons_zero, List.getElem_cons_succ]
    refine RG.RunsIf.weak (v := ?_) (by rfl) (by rfl) (fun Z hT => ?_) ?_
    rotate_left
    · go_simp
      rfl
    simp only [Act.put, List.setIfInBounds_toArray, List.set_cons_zero, List.set_cons_succ, List.getElem_toArray, List.getElem_cons_zero, List.getElem_cons_succ]
    refine RG.RunsIf.strong (v := .slice (some ⟨rb, 0, none⟩) n rcap) (by rfl) (by kernel_rfl) (by rfl) (fun Z hT hS => ?_) ?_
    · have z1 := keepC hS z1; have c5 := keepC hS c5; have c10 := keepC hS c10; have x1 := keepC hS x1
      go_simp
    simp only [Act.put, List.setIfInBounds_toArray, List.set_cons_zero, List.set_cons_succ, List.getElem_toArray, List.getElem_cons_zero, List.getElem_cons_succ]
    refine RG.RunsIf.weak (v := ?_) (by rfl) (by rfl) (fun Z hT => ?_) ?_
    rotate_left
    · go_simp
      rfl
    simp only [Act.put, List.setIfInBounds_toArray, List.set_cons_zero, List.set_cons_succ, List.getElem_toArray, List.getElem_cons_zero, List.getElem_cons_succ]
    refine RG.RunsIf.weak (v := ?_) (by rfl) (by rfl) (fun Z hT => ?_) ?_
    rotate_left
    · go_simp
      rfl
    simp only [Act.put, List.setIfInBounds_toArray, List.set_cons_zero, List.set_cons_succ, List.getElem_toArray, List.getElem_cons_zero, List.getElem_cons_succ]
    refine RG.RunsIf.strong (v := .int .i64 (c : Int)) (by rfl) (by kernel_rfl) (by rfl) (fun Z hT hS => ?_) ?_
    · have z1 := keepC hS z1; have c5 := keepC hS c5; have c10 := keepC hS c10; have x1 := keepC hS x1
      go_simp
    simp only [Act.put, List.setIfInBounds_toArray, List.set_cons_zero, List.set_cons_succ, List.getElem_toArray, List.getElem_cons_zero, List.getElem_cons_succ]
    refine RG.RunsIf.weak (v := ?_) (by rfl) (by rfl) (fun Z hT => ?_) ?_
    rotate_left
    · go_simp
      rfl
    simp only [Act.put, List.setIfInBounds_toArray, List.set_cons_zero, List.set_cons_succ, List.getElem_toArray, List.getElem_cons_zero, List.getElem_cons_succ]
    refine RG.RunsIf.weak (v := ?_) (by rfl) (by rfl) (fun Z hT => ?_) ?_
    rotate_left
    · go_simp
      rfl
    simp only [Act.put, List.setIfInBounds_toArray, List.set_cons_zero, List.set_cons_succ, List.getElem_toArray, List.getElem_cons_zero, List.getElem_cons_succ]
    refine RG.RunsIf.weak (v := ?_) (by rfl) (by rfl) (fun Z hT => ?_) ?_
    rotate_left
    · go_simp
      rfl
    simp only [Act.put, List.setIfInBounds_toArray, List.set_cons_zero, List.set_cons_succ, List.getElem_toArray, List.getElem_cons_zero, List.getElem_cons_succ]
    refine RG.RunsIf.strong (v := .int .i64 x0) (by rfl) (by kernel_rfl) (by rfl) (fun Z hT hS => ?_) ?_
    · have z1 := keepC hS z1; have c5 := keepC hS c5; have c10 := keepC hS c10; have x1 := keepC hS x1
      go_simp
    simp only [Act.put, List.setIfInBounds_toArray, List.set_cons_zero, List.set_cons_succ, List.getElem_toArray, List.getElem_cons_zero, List.getElem_cons_succ]
    refine RG.RunsIf.weak (v := ?_) (by rfl) (by rfl) (fun Z hT => ?_) ?_
    rotate_left
    · go_simp
      rfl
    simp only [Act.put, List.setIfInBounds_toArray, List.set_cons_zero, List.set_cons_succ, List.getElem_toArray, List.getElem_cons_zero, List.getElem_cons_succ]
    refine RG.RunsIf.weak (v := ?_) (by rfl) (by rfl) (fun Z hT => ?_) ?_
    rotate_left
    · go_simp
      rfl
    simp only [Act.put, List.setIfInBounds_toArray, List.set_cons_zero, List.set_cons_succ, List.getElem_toArray, List.getElem_cons_zero, List.getElem_cons_succ]
    refine RG.RunsIf.weak (v := ?_) (by rfl) (by rfl) (fun Z hT => ?_) ?_
    rotate_left
    · go_simp
      rfl
    simp only [Act.put, List.setIfInBounds_toArray, List.set_cons_zero, List.set_cons_succ, List.getElem_toArray, List.getElem_cons_zero, List.getElem_cons_succ]
    refine RG.RunsIf.strong (v := .slice (some ⟨cb, 0, none⟩) cn ccap) (by rfl) (by kernel_rfl) (by rfl) (fun Z hT hS => ?_) ?_
    · have z1 := keepC hS z1; have c5 := keepC hS c5; have c10 := keepC hS c10; have x1 := keepC hS x1
      go_simp
    simp only [Act.put, List.setIfInBounds_toArray, List.set_cons_zero, List.set_cons_succ, List.getElem_toArray, List.getElem_cons_zero, List.getElem_cons_succ]
    refine RG.RunsIf.weak (v := ?_) (by rfl) (by rfl) (fun Z hT => ?_) ?_
    rotate_left
    · go_simp
      rfl
    simp only [Act.put, List.setIfInBounds_toArray, List.set_cons_zero, List.set_cons_succ, List.getElem_toArray, List.getElem_cons_zero, List.getElem_cons_succ]
    exact RG.RunsIf.nil
  refine RG.wpL_step (i := 17) (by kernel_rfl) (by rfl) (by rfl) (fun KX hK => ?_)
  have HK := TW.hide hK
  clear hK
  go_simp
  refine (HRR.out _).mono ?_
  rintro e_ w_ ⟨rfl, rfl⟩
  refine HK.out _ _ trivial (fun _ => HBa.out) ?_
  clear HK KX
  refine RG.wpL_take (fuel := 1) (a' := ?Ax) [18, 19] (by kernel_rfl) (by kernel_rfl) (fun _ _ _ _ _ h => h) trivial (fun _ => HBa.out) ?rx ?_
  case rx =>
    refine RG.RunsIf.weak (v := ?_) (by rfl) (by rfl) (fun Z hT => ?_) ?_
    rotate_left
    · go_simp
      rfl
    simp only [Act.put, List.setIfInBounds_toArray, List.set_cons_zero, List.set_cons_succ, List.getElem_toArray, List.getElem_cons_zero, List.getElem_cons_succ]
    refine RG.RunsIf.weak (v := ?_) (by rfl) (by rfl) (fun Z hT => ?_) ?_
    rotate_left
    · go_simp
      rfl
    simp only [Act.put, List.setIfInBounds_toArray, List.set_cons_zero, List.set_cons_succ, List.getElem_toArray, List.getElem_cons_zero, List.getElem_cons_succ]
    exact RG.RunsIf.nil
  have HMa := TW.hide (HMV.out.below HBa.out)
  have HEa := TW.hide (HEV.out.below HBa.out)
  have HIa := TW.hide (blk_keep HI.out HBa.out)
  clear HI HMV HEV HBa
  have fz := HEa.out.froz 2
  have cz := HEa.out.cells.2.2.1
  have HMB : Hid (WM o (Ya.setCell ⟨ge, 2, none⟩ (.int .i64 (ci : Int))) g s pa pc ra rc t m) := HMa.out.setE HEa.out HB.out HN.out 2 _
  have HEB : Hid (EvB (Ya.setCell ⟨ge, 2, none⟩ (.int .i64 (ci : Int))) ge ⟨k, 12, ci, 0, false⟩) := HEa.out.setA ci
  have HIB : Hid ((Ya.setCell ⟨ge, 2, none⟩ (.int .i64 (ci : Int))).heap[gi]? = some (.cells #[.int .i64 12, .int .i64 (c : Int), .int .i64 (r : Int), .int .i64 a2] 53 (0, 0))) := blk_setN HIa.out HEa.out (by decide)
  refine RG.wpL_late (i := 20) (by kernel_rfl) (by rfl) (by rfl) (by kernel_rfl) (fun KX hK => ?_)
  have HK := TW.hide hK
  clear hK
  go_simp
  refine HK.out _ _ trivial ?_
  clear HK KX cz fz
  refine RG.wpL_done (by kernel_rfl) ?_ _
  refine NoPanic.normal ?_
  clear HMa HEa HIa z0 z1 z2 z3 c5 c10 x1
  generalize Ya.setCell _ _ = B at *
  have HI := HIB
  clear HIB
  obtain ⟨z0, z1, z2, z3⟩ := cellsY4 HI.out
  have c10 := HMB.out.c10
  rw [e10] at c10
  have d2 := HEB.out.cells.2.2.1
  have x4 := (HCA.out _ HMB.out).2
  go_wp2
  refine wp_region_noPanic ?_
  refine RG.wp_region_L (fun Z => Below B.heap.size B Z) (fun Z => True) [13] (by kernel_rfl) ?_
  refine RG.wpL_any fun Yb hY => ?_
  have HBb : Hid (Below B.heap.size B Yb) := by rw [hY]; exact below_drewN (Below.refl _ _) 1
  clear hY
  refine RG.wpL_take (fuel := 1) (a' := ?Ab) [0, 1, 2, 3, 4, 5, 6, 7, 8, 9, 10, 11, 12] (by kernel_rfl) (by kernel_rfl) (fun _ _ _ _ _ h => h) trivial (fun _ => HBb.out) ?rb ?_
  case rb =>
    refine RG.RunsIf.weak (v := ?_) (by rfl) (by rfl) (fun Z hT => ?_) ?_
    rotate_left
    · go_simp
      rfl
    simp only [Act.put, List.setIfInBounds_toArray, List.set_cons_zero, List.set_cons_succ, List.getElem_toArray, List.getElem_cons_zero, List.getElem_cons_succ]
    refine RG.RunsIf.weak (v := ?_) (by rfl) (by rfl) (fun Z hT => ?_) ?_
    rotate_left
    · go_simp
      rfl
    simp only [Act.put, List.setIfInBounds_toArray, List.set_cons_zero, List.set_cons_succ, List.getElem_toArray, List.getElem_cons_zero, List.getElem_cons_succ]
    refine RG.RunsIf.weak (v := ?_) (by rfl) (by rfl) (fun Z hT => ?_) ?_
    rotate_left
    · go_simp
      rfl
    simp only [Act.put, List.setIfInBounds_toArray, List.set_cons_zero, List.set_cons_succ, List.getElem_toArray, List.getElem_cons_zero, List.getElem_cons_succ]
    refine RG.RunsIf.weak (v := ?_) (by rfl) (by rfl) (fun Z hT => ?_) ?_
    rotate_left
    · go_simp
      rfl
    simp only [Act.put, List.setIfInBounds_toArray, List.set_cons_zero, List.set_cons_succ, List.getElem_toArray, List.getElem_cons_zero, List.getElem_cons_succ]
    refine RG.RunsIf.strong (v := .slice (some ⟨cb, 0, none⟩) cn ccap) (by rfl) (by kernel_rfl) (by rfl) (fun Z hT hS => ?_) ?_
    · have c10 := keepC hS c10; have d2 := keepC hS d2; have x4 := keepC hS x4
      go_simp
    simp only [Act.put, List.setIfInBounds_toArray, List.set_cons_zero, List.set_cons_succ, List.getElem_toArray, List.getElem_cons_zero, List.getElem_cons_succ]
    refine RG.RunsIf.weak (v := ?_) (by rfl) (by rfl) (fun Z hT => ?_) ?_
    rotate_left
    · go_simp
      rfl
    simp only [Act.put, List.setIfInBounds_toArray, List.set_cons_zero, List.set_cons_succ, List.getElem_toArray, List.getElem_cons_zero, List.getElem_cons_succ]
    refine RG.RunsIf.weak (v := ?_) (by rfl) (by rfl) (fun Z hT => ?_) ?_
    rotate_left
    · go_simp
      rfl
    simp only [Act.put, List.setIfInBounds_toArray, List.set_cons_zero, List.set_cons_succ, List.getElem_toArray, List.getElem_cons_zero, List.getElem_cons_succ]
    refine RG.RunsIf.weak (v := ?_) (by rfl) (by rfl) (fun Z hT => ?_) ?_
    rotate_left
    · go_simp
      rfl
    simp only [Act.put, List.setIfInBounds_toArray, List.set_cons_zero, List.set_cons_succ, List.getElem_toArray, List.getElem_cons_zero, List.getElem_cons_succ]
    refine RG.RunsIf.strong (v := .int .i64 (ci : Int)) (by rfl) (by kernel_rfl) (by rfl) (fun Z hT hS => ?_) ?_
    · have c10 := keepC hS c10; have d2 := keepC hS d2; have x4 := keepC hS x4
      go_simp
    simp only [Act.put, List.setIfInBounds_toArray, List.set_cons_zero, List.set_cons_succ, List.getElem_toArray, List.getElem_cons_zero, List.getElem_cons_succ]
    refine RG.RunsIf.weak (v := ?_) (by rfl) (by rfl) (fun Z hT => ?_) ?_
    rotate_left
    · go_simp
      rfl
    simp only [Act.put, List.setIfInBounds_toArray, List.set_cons_zero, List.set_cons_succ, List.getElem_toArray, List.getElem_cons_zero, List.getElem_cons_succ]
    refine RG.RunsIf.strong (v := .int .i64 v0) (by rfl) (by kernel_rfl) (by rfl) (fun Z hT hS => ?_) ?_
    · have c10 := keepC hS c10; have d2 := keepC hS d2; have x4 := keepC hS x4
      go_simp
    simp only [Act.put, List.setIfInBounds_toArray, List.set_cons_zero, List.set_cons_succ, List.getElem_toArray, List.getElem_cons_zero, List.getElem_cons_succ]
    refine RG.RunsIf.weak (v := ?_) (by rfl) (by rfl) (fun Z hT => ?_) ?_
    rotate_left
    · go_simp
      rfl
    simp only [Act.put, List.setIfInBounds_toArray, List.set_cons_zero, List.set_cons_succ, List.getElem_toArray, List.getElem_cons_zero, List.getElem_cons_succ]
    refine RG.RunsIf.weak (v := ?_) (by rfl) (by rfl) (fun Z hT => ?_) ?_
    rotate_left
    · go_simp
      rfl
    simp only [Act.put, List.setIfInBounds_toArray, List.set_cons_zero, List.set_cons_succ, List.getElem_toArray, List.getElem_cons_zero, List.getElem_cons_succ]
    exact RG.RunsIf.nil
  have HMb := TW.hide (HMB.out.below HBb.out)
  have HEb := TW.hide (HEB.out.below HBb.out)
  have HIb := TW.hide (blk_keep HI.out HBb.out)
  clear HI HMB HEB HBb
  have fz := HEb.out.froz 3
  have cz := HEb.out.cells.2.2.2.1
  have HMC : Hid (WM o (Yb.setCell ⟨ge, 3, none⟩ (.int .i64 v0)) g s pa pc ra rc t m) := HMb.out.setE HEb.out HB.out HN.out 3 _
  have HEC : Hid (EvB (Yb.setCell ⟨ge, 3, none⟩ (.int .i64 v0)) ge ⟨k, 12, ci, v0, false⟩) := HEb.out.setV v0
  have HIC : Hid ((Yb.setCell ⟨ge, 3, none⟩ (.int .i64 v0)).heap[gi]? = some (.cells #[.int .i64 12, .int .i64 (c : Int), .int .i64 (r : Int), .int .i64 a2] 53 (0, 0))) := blk_setN HIb.out HEb.out (by decide)
  refine RG.wpL_late (i := 13) (by kernel_rfl) (by rfl) (by rfl) (by kernel_rfl) (fun KX hK => ?_)
  have HK := TW.hide hK
  clear hK
  go_simp
  refine HK.out _ _ trivial ?_
  clear HK KX cz fz
  refine RG.wpL_done (by kernel_rfl) ?_ _
  refine NoPanic.normal ?_
  clear HMb HEb HIb z0 z1 z2 z3 c10 d2 x4
  generalize Yb.setCell _ _ = C at *
  have HI := HIC
  clear HIC
  obtain ⟨z0, z1, z2, z3⟩ := cellsY4 HI.out
  go_wp2
  refine wp_region_noPanic ?_
  refine RG.wp_region_L (fun Z => True) (fun Z => Z.cell? ⟨gi, 2, none⟩ = some (.int .i64 (r : Int)) ∧ Z.cell? ⟨ge, 3, none⟩ = some (.int .i64 v0)) [] (by kernel_rfl) ?_
  refine RG.wpL_any fun Yc hY => ?_
  have HBc : Hid (Below C.heap.size C Yc) := by rw [hY]; exact below_drewN (Below.refl _ _) 1
  clear hY
  have HMc := TW.hide (HMC.out.below HBc.out)
  have HEc := TW.hide (HEC.out.below HBc.out)
  have HIc := TW.hide (blk_keep HI.out HBc.out)
  have HTT : Hid (Yc.cell? ⟨gi, 2, none⟩ = some (.int .i64 (r : Int)) ∧ Yc.cell? ⟨ge, 3, none⟩ = some (.int .i64 v0)) := ⟨(cellsY4 HIc.out).2.2.1, HEc.out.cells.2.2.2.1⟩
  clear HMC HEC HI HBc
  refine RG.wpL_take (fuel := 1) (a' := ?Ac) [0, 1, 2, 3, 4, 5, 6, 7] (by kernel_rfl) (by kernel_rfl) (fun _ _ _ _ _ h => h) HTT.out (fun _ => trivial) ?rc ?_
  case rc =>
    refine RG.RunsIf.weak (v := ?_) (by rfl) (by rfl) (fun Z hT => ?_) ?_
    rotate_left
    · go_simp
      rfl
    simp only [Act.put, List.setIfInBounds_toArray, List.set_cons_zero, List.set_cons_succ, List.getElem_toArray, List.getElem_cons_zero, List.getElem_cons_succ]
    refine RG.RunsIf.weak (v := ?_) (by rfl) (by rfl) (fun Z hT => ?_) ?_
    rotate_left
    · go_simp
      rfl
    simp only [Act.put, List.setIfInBounds_toArray, List.set_cons_zero, List.set_cons_succ, List.getElem_toArray, List.getElem_cons_zero, List.getElem_cons_succ]
    refine RG.RunsIf.weak (v := ?_) (by rfl) (by rfl) (fun Z hT => ?_) ?_
    rotate_left
    · go_simp
      rfl
    simp only [Act.put, List.setIfInBounds_toArray, List.set_cons_zero, List.set_cons_succ, List.getElem_toArray, List.getElem_cons_zero, List.getElem_cons_succ]
    refine RG.RunsIf.weak (v := .int .i64 (r : Int)) (by rfl) (by rfl) (fun Z hT => ?_) ?_
    · obtain ⟨g1, g2⟩ := hT
      go_simp
    simp only [Act.put, List.setIfInBounds_toArray, List.set_cons_zero, List.set_cons_succ, List.getElem_toArray, List.getElem_cons_zero, List.getElem_cons_succ]
    refine RG.RunsIf.weak (v := ?_) (by rfl) (by rfl) (fun Z hT => ?_) ?_
    rotate_left
    · go_simp
      rfl
    simp only [Act.put, List.setIfInBounds_toArray, List.set_cons_zero, List.set_cons_succ, List.getElem_toArray, List.getElem_cons_zero, List.getElem_cons_succ]
    refine RG.RunsIf.weak (v := ?_) (by rfl) (by rfl) (fun Z hT => ?_) ?_
    rotate_left
    · go_simp
      rfl
    simp only [Act.put, List.setIfInBounds_toArray, List.set_cons_zero, List.set_cons_succ, List.getElem_toArray, List.getElem_cons_zero, List.getElem_cons_succ]
    refine RG.RunsIf.weak (v := ?_) (by rfl) (by rfl) (fun Z hT => ?_) ?_
    rotate_left
    · go_simp
      rfl
    simp only [Act.put, List.setIfInBounds_toArray, List.set_cons_zero, List.set_cons_succ, List.getElem_toArray, List.getElem_cons_zero, List.getElem_cons_succ]
    refine RG.RunsIf.weak (v := .int .i64 v0) (by rfl) (by rfl) (fun Z hT => ?_) ?_
    · obtain ⟨g1, g2⟩ := hT
      go_simp
    simp only [Act.put, List.setIfInBounds_toArray, List.set_cons_zero, List.set_cons_succ, List.getElem_toArray, List.getElem_cons_zero, List.getElem_cons_succ]
    exact RG.RunsIf.nil
  refine RG.wpL_step (i := 8) (by kernel_rfl) (by rfl) (by rfl) (fun KX hK => ?_)
  have HK := TW.hide hK
  clear hK
  go_simp
  refine (rset k (r : Int) v0 _ HMc.out h8 hk (by omega)).mono ?_
  rintro e_ w_ ⟨rfl, hw, hoth⟩
  have hnr : rb ≠ ge := ge_rb HMc.out hk e5 HEc.out
  have hni : rb ≠ gi := by
    obtain ⟨b', cp, e', _, _, ⟨cur, hh⟩, _⟩ := HMc.out.rn1 k hk
    rw [e5] at e'
    injection e' with e1
    injection e1 with e1
    injection e1 with e1
    subst e1
    rintro rfl
    have := hh.symm.trans HIc.out
    simp at this
  have hge := hoth ge (by rw [e5]; simpa [Value.ownBlock] using hnr)
  have hgi := hoth gi (by rw [e5]; simpa [Value.ownBlock] using hni)
  have HMz := TW.hide hw
  have HEz := TW.hide (HEc.out.keep hge)
  refine HK.out _ _ ⟨by rw [cell_of hgi]; exact HTT.out.1, by rw [cell_of hge]; exact HTT.out.2⟩ (fun _ => trivial) ?_
  clear HK KX hw hoth hnr hni hge hgi HTT HMc HEc HIc
  refine RG.wpL_done (by kernel_rfl) ?_ _
  refine NoPanic.normal ?_
  go_wp2
  rw [← HP.out]
  exact ⟨rfl, m, HMz.out, HEz.out, rfl, rfl, rfl⟩
set_option maxRecDepth 100000 in
set_option maxHeartbeats 4000000 in
theorem rwrite {o : World} {g : Nat} {s : Syst} {pa : Option Addr} {pc : Nat} {ra : Option Addr} {rc : Nat} {t : St} {m : WV} (k c r : Nat) (a2 : Int) (ge : Nat) (w : World) (h : WM o w g s pa pc ra rc t m) (hk : k < t.rns.length) (hc : c < 8) (hr : r < 8) (h8 : (Mc.rn t k).regs.length = 8) (hC : 0 < t.cells.length) (hC2 : t.cells.length ≤ 64) (hE : EvB w ge ⟨k, 13, c, 0, false⟩) (hB : o.heap.size ≤ ge) (hn : m.ev.ownBlock ≠ some ge) :
    Calls Try.prog 39 #[.pointer (some ⟨g, 0, none⟩), .int .i64 k, .agg #[.int .i64 13, .int .i64 (c : Int), .int .i64 (r : Int), .int .i64 a2], .pointer (some ⟨ge, 0, none⟩)] w (ChP o g s pa pc ra rc m ge k 13 (⟨rest (reg t k (c : Int)) t.cells.length, reg t k (r : Int), false, 0, { t with cells := t.cells.set (rest (reg t k (c : Int)) t.cells.length).toNat (reg t k (r : Int)) }⟩)) := by
  have HM := TW.hide h
  have HE := TW.hide hE
  have HB := TW.hide hB
  have HN := TW.hide hn
  clear h hE hB hn
  generalize hP : ChP o g s pa pc ra rc m ge k _ _ = POST
  have HP := TW.hide hP
  clear hP
  obtain ⟨ci, hci, hcl⟩ : ∃ ci : Nat, rest (reg t k (c : Int)) t.cells.length = (ci : Int) ∧ ci < t.cells.length := by
    have h1 := Int.emod_nonneg (reg t k (c : Int)) (show (t.cells.length : Int) ≠ 0 by omega)
    have h2 := Int.emod_lt_of_pos (reg t k (c : Int)) (show (0 : Int) < t.cells.length by omega)
    exact ⟨(rest (reg t k (c : Int)) t.cells.length).toNat, by unfold rest; omega, by unfold rest; omega⟩
  have HRR : Hid (∀ W, Calls Try.prog 21 #[.int .i64 (reg t k (c : Int)), .int .i64 (t.cells.length : Int)] W fun e w' => e = .returned (.int .i64 (ci : Int)) ∧ W = w') := fun W => by
    have := rrest (reg t k (c : Int)) t.cells.length W (by omega) (by omega)
    unfold rest at hci
    rwa [hci] at this
  rw [hci, Int.toNat_natCast] at HP
  have hA0 : Below w.heap.size w (w.alloc (.cells #[.int .i64 13, .int .i64 (c : Int), .int .i64 (r : Int), .int .i64 a2] 53)) := (Below.refl _ _).alloc (Nat.le_refl _) _
  have NI0 : (w.alloc (.cells #[.int .i64 13, .int .i64 (c : Int), .int .i64 (r : Int), .int .i64 a2] 53)).heap[w.heap.size]? = some (.cells #[.int .i64 13, .int .i64 (c : Int), .int .i64 (r : Int), .int .i64 a2] 53 (0, 0)) := heap_alloc_new w _
  go_enter Try.func39, Try.ntmps39
  refine wp_seq_k fun K hK => ?_
  have HK := TW.hide hK
  clear hK
  go_wp2
  refine HK.out _ _ ?_
  clear HK K
  have HMV := TW.hide (HM.out.below hA0)
  have HEV := TW.hide (HE.out.below hA0)
  have HI := TW.hide NI0
  clear hA0 NI0 HM HE
  generalize (w.alloc (.cells #[.int .i64 13, .int .i64 (c : Int), .int .i64 (r : Int), .int .i64 a2] 53)) = V at *
  generalize w.heap.size = gi at *
  obtain ⟨z0, z1, z2, z3⟩ := cellsY4 HI.out
  obtain ⟨rb, rcap, e5, hrbB, x1⟩ := HMV.out.reg1 k hk c hc
  have c5 := HMV.out.c5
  rw [e5] at c5
  obtain ⟨cb, ccap, e10, hcbB, _, x3⟩ := HMV.out.ce1 ci hcl
  have c10 := HMV.out.c10
  rw [e10] at c10
  have k1 : (k : Int) < (t.rns.length : Int) := by omega
  have k0 : (0 : Int) ≤ (k : Int) := by omega
  have r1 : (r : Int) < 8 := by omega
  have r0 : (0 : Int) ≤ (r : Int) := by omega
  have q1 : (c : Int) < 8 := by omega
  have q0 : (0 : Int) ≤ (c : Int) := by omega
  have i1 : (ci : Int) < (t.cells.length : Int) := by omega
  have i0 : (0 : Int) ≤ (ci : Int) := by omega
  have HCA : Hid (∀ W, WM o W g s pa pc ra rc t m → W.frozen? ⟨cb, ci, none⟩ = false ∧ W.cell? ⟨cb, ci, none⟩ = some (.int .i64 (t.cells.getD ci 0))) := fun W hW => ce1_at hW hcl e10
  have HRg : Hid (∀ W, WM o W g s pa pc ra rc t m → W.cell? ⟨rb, k * 11 + 2 + r, none⟩ = some (.int .i64 (reg t k (r : Int)))) := fun W hW => by
    obtain ⟨b', cp, e', _, hh⟩ := hW.reg1 k hk r hr
    rw [e5] at e'
    injection e' with e1
    injection e1 with e1
    injection e1 with e1
    subst e1
    exact hh
  generalize hnn : t.rns.length = n at e5 c5 k1
  generalize hcn : t.cells.length = cn at e10 c10 i1 HRR
  generalize reg t k (c : Int) = x0 at x1 HRR
  clear x3 hci
  generalize reg t k (r : Int) = v0 at *
  go_wp2
  refine wp_region_noPanic ?_
  refine RG.wp_region_L (fun Z => Below V.heap.size V Z) (fun Z => True) [20] (by kernel_rfl) ?_
  refine RG.wpL_any fun Ya hY => ?_
  have HBa : Hid (Below V.heap.size V Ya) := by rw [hY]; exact below_drewN (Below.refl _ _) 1
  clear hY
  refine RG.wpL_take (fuel := 4) (a' := ?Aa) [0, 1, 2, 3, 4, 5, 6, 7, 8, 9, 10, 11, 12, 13, 14, 15, 16] (by kernel_rfl) (by kernel_rfl) (fun _ _ _ _ _ h => h) trivial (fun _ => HBa.out) ?ra ?_
  case ra =>
    refine RG.RunsIf.weak (v := ?_) (by rfl) (by rfl) (fun Z hT => ?_) ?_
    rotate_left
    · go_simp
      rfl
    simp only [Act.put, List.setIfInBounds_toArray, List.set_cons_zero, List.set_cons_succ, List.getElem_toArray, List.getElem_cons_zero, List.getElem_cons_succ]
    refine RG.RunsIf.weak (v := ?_) (by rfl) (by rfl) (fun Z hT => ?_) ?_
    rotate_left
    · go_simp
      rfl
    simp only [Act.put, List.setIfInBounds_toArray, List.set_cons_zero, List.set_cons_succ, List.getElem_toArray, List.getElem_cons_zero, List.getElem_cons_succ]
    refine RG.RunsIf.weak (v := ?_) (by rfl) (by rfl) (fun Z hT => ?_) ?_
    rotate_left
    · go_simp
      rfl
    simp only [Act.put, List.setIfInBounds_toArray, List.set_cons_zero, List.set_cons_succ, List.getElem_toArray, List.getElem_cons_zero, List.getElem_cons_succ]
    refine RG.RunsIf.weak (v := ?_) (by rfl) (by rfl) (fun Z hT => ?_) ?_
    rotate_left
    · go_simp
      rfl
    simp only [Act.put, List.setIfInBounds_toArray, List.set_cons_zero, List.set_cons_succ, List.getElem_toArray, List.getElem_cons_zero, List.getElem_cons_succ]
    refine RG.RunsIf.strong (v := .slice (some ⟨rb, 0, none⟩) n rcap) (by rfl) (by kernel_rfl) (by rfl) (fun Z hT hS => ?_) ?_
    · have z1 := keepC hS z1; have c5 := keepC hS c5; have c10 := keepC hS c10; have x1 := keepC hS x1
      go_simp
    simp only [Act.put, List.setIfInBounds_toArray, List.set_cons_zero, List.set_cons_succ, List.getElem_toArray, List.getElem_cons_zero, List.getElem_cons_succ]
    refine RG.RunsIf.weak (v := ?_) (by rfl) (by rfl) (fun Z hT => ?_) ?_
    rotate_left
    · go_simp
      rfl
    simp only [Act.put, List.setIfInBounds_toArray, List.set_cons_zero, List.set_cons_succ, List.getElem_toArray, List.getElem_cons_zero, List.getElem_cons_succ]
    refine RG.RunsIf.weak (v := ?_) (by rfl) (by rfl) (fun Z hT => ?_) ?_
    rotate_left
    · go_simp
      rfl
    simp only [Act.put, List.setIfInBounds_toArray, List.set_cons_zero, List.set_cons_succ, List.getElem_toArray, List.getElem_cons_zero, List.getElem_cons_succ]
    refine RG.RunsIf.strong (v := .int .i64 (c : Int)) (by rfl) (by kernel_rfl) (by rfl) (fun Z hT hS => ?_) ?_
    · have z1 := keepC hS z1; have c5 := keepC hS c5; have c10 := keepC hS c10; have x1 := keepC hS x1
      go_simp
    simp only [Act.put, List.setIfInBounds_toArray, List.set_cons_zero, List.set_cons_succ, List.getElem_toArray, List.getElem_cons_zero, List.getElem_cons_succ]
    refine RG.RunsIf.weak (v := ?_) (by rfl) (by rfl) (fun Z hT => ?_) ?_
    rotate_left
    · go_simp
      rfl
    simp only [Act.put, List.setIfInBounds_toArray, List.set_cons_zero, List.set_cons_succ, List.getElem_toArray, List.getElem_cons_zero, List.getElem_cons_succ]
    refine RG.RunsIf.weak (v := ?_) (by rfl) (by rfl) (fun Z hT => ?_) ?_
    rotate_left
    · go_simp
      rfl
    simp only [Act.put, List.setIfInBounds_toArray, List.set_cons_zero, List.set_cons_succ, List.getElem_toArray, List.getElem_cons_zero, List.getElem_cons_succ]
    refine RG.RunsIf.weak (v := ?_) (by rfl) (by rfl) (fun Z hT => ?_) ?_
    rotate_left
    · go_simp
      rfl
    simp only [Act.put, List.setIfInBounds_toArray, List.set_cons_zero, List.set_cons_succ, List.getElem_toArray, List.getElem_cons_zero, List.getElem_cons_succ]
    refine RG.RunsIf.strong (v := .int .i64 x0) (by rfl) (by kernel_rfl) (by rfl) (fun Z hT hS => ?_) ?_
    · have z1 := keepC hS z1; have c5 := keepC hS c5; have c10 := keepC hS c10; have x1 := keepC hS x1
      go_simp
    simp only [Act.put, List.setIfInBounds_toArray, List.set_cons_zero, List.set_cons_succ, List.getElem_toArray, List.getElem_cons_zero, List.getElem_cons_succ]
    refine RG.RunsIf.weak (v := ?_) (by rfl) (by rfl) (fun Z hT => ?_) ?_
    rotate_left
    · go_simp
      rfl
    simp only [Act.put, List.setIfInBounds_toArray, List.set_cons_zero, List.set_cons_succ, List.getElem_toArray, List.getElem_cons_zero, List.getElem_cons_succ]
    refine RG.RunsIf.weak (v := ?_) (by rfl) (by rfl) (fun Z hT => ?_) ?_
    rotate_left
    · go_simp
      rfl
    simp only [Act.put, List.setIfInBounds_toArray, List.set_cons_zero, List.set_cons_succ, List.getElem_toArray, List.getElem_cons_zero, List.getElem_cons_succ]
    refine RG.RunsIf.weak (v := ?_) (by rfl) (by rfl) (fun Z hT => ?_) ?_
    rotate_left
    · go_simp
      rfl
    simp only [Act.put, List.setIfInBounds_toArray, List.set_cons_zero, List.set_cons_succ, List.getElem_toArray, List.getElem_cons_zero, List.getElem_cons_succ]
    refine RG.RunsIf.strong (v := .slice (some ⟨cb, 0, none⟩) cn ccap) (by rfl) (by kernel_rfl) (by rfl) (fun Z hT hS => ?_) ?_
    · have z1 := keepC hS z1; have c5 := keepC hS c5; have c10 := keepC hS c10; have x1 := keepC hS x1
      go_simp
    simp only [Act.put, List.setIfInBounds_toArray, List.set_cons_zero, List.set_cons_succ, List.getElem_toArray, List.getElem_cons_zero, List.getElem_cons_succ]
    refine RG.RunsIf.weak (v := ?_) (by rfl) (by rfl) (fun Z hT => ?_) ?_
    rotate_left
    · go_simp
      rfl
    simp only [Act.put, List.setIfInBounds_toArray, List.set_cons_zero, List.set_cons_succ, List.getElem_toArray, List.getElem_cons_zero, List.getElem_cons_succ]
    exact RG.RunsIf.nil
  refine RG.wpL_step (i := 17) (by kernel_rfl) (by rfl) (by rfl) (fun KX hK => ?_)
  have HK := TW.hide hK
  clear hK
  go_simp
  refine (HRR.out _).mono ?_
  rintro e_ w_ ⟨rfl, rfl⟩
  refine HK.out _ _ trivial (fun _ => HBa.out) ?_
  clear HK KX
  refine RG.wpL_take (fuel := 1) (a' := ?Ax) [18, 19] (by kernel_rfl) (by kernel_rfl) (fun _ _ _ _ _ h => h) trivial (fun _ => HBa.out) ?rx ?_
  case rx =>
    refine RG.RunsIf.weak (v := ?_) (by rfl) (by rfl) (fun Z hT => ?_) ?_
    rotate_left
    · go_simp
      rfl
    simp only [Act.put, List.setIfInBounds_toArray, List.set_cons_zero, List.set_cons_succ, List.getElem_toArray, List.getElem_cons_zero, List.getElem_cons_succ]
    refine RG.RunsIf.weak (v := ?_) (by rfl) (by rfl) (fun Z hT => ?_) ?_
    rotate_left
    · go_simp
      rfl
    simp only [Act.put, List.setIfInBounds_toArray, List.set_cons_zero, List.set_cons_succ, List.getElem_toArray, List.getElem_cons_zero, List.getElem_cons_succ]
    exact RG.RunsIf.nil
  have HMa := TW.hide (HMV.out.below HBa.out)
  have HEa := TW.hide (HEV.out.below HBa.out)
  have HIa := TW.hide (blk_keep HI.out HBa.out)
  clear HI HMV HEV HBa
  have fz := HEa.out.froz 2
  have cz := HEa.out.cells.2.2.1
  have HMB : Hid (WM o (Ya.setCell ⟨ge, 2, none⟩ (.int .i64 (ci : Int))) g s pa pc ra rc t m) := HMa.out.setE HEa.out HB.out HN.out 2 _
  have HEB : Hid (EvB (Ya.setCell ⟨ge, 2, none⟩ (.int .i64 (ci : Int))) ge ⟨k, 13, ci, 0, false⟩) := HEa.out.setA ci
  have HIB : Hid ((Ya.setCell ⟨ge, 2, none⟩ (.int .i64 (ci : Int))).heap[gi]? = some (.cells #[.int .i64 13, .int .i64 (c : Int), .int .i64 (r : Int), .int .i64 a2] 53 (0, 0))) := blk_setN HIa.out HEa.out (by decide)
  refine RG.wpL_late (i := 20) (by kernel_rfl) (by rfl) (by rfl) (by kernel_rfl) (fun KX hK => ?_)
  have HK := TW.hide hK
  clear hK
  go_simp
  refine HK.out _ _ trivial ?_
  clear HK KX cz fz
  refine RG.wpL_done (by kernel_rfl) ?_ _
  refine NoPanic.normal ?_
  clear HMa HEa HIa z0 z1 z2 z3 c5 c10 x1
  generalize Ya.setCell _ _ = B at *
  have HI := HIB
  clear HIB
  obtain ⟨z0, z1, z2, z3⟩ := cellsY4 HI.out
  have c5 := HMB.out.c5
  rw [e5] at c5
  have x4 := HRg.out _ HMB.out
  go_wp2
  refine wp_region_noPanic ?_
  refine RG.wp_region_L (fun Z => Below B.heap.size B Z) (fun Z => True) [14] (by kernel_rfl) ?_
  refine RG.wpL_any fun Yb hY => ?_
  have HBb : Hid (Below B.heap.size B Yb) := by rw [hY]; exact below_drewN (Below.refl _ _) 1
  clear hY
  refine RG.wpL_take (fuel := 1) (a' := ?Ab) [0, 1, 2, 3, 4, 5, 6, 7, 8, 9, 10, 11, 12, 13] (by kernel_rfl) (by kernel_rfl) (fun _ _ _ _ _ h => h) trivial (fun _ => HBb.out) ?rb ?_
  case rb =>
    refine RG.RunsIf.weak (v := ?_) (by rfl) (by rfl) (fun Z hT => ?_) ?_
    rotate_left
    · go_simp
      rfl
    simp only [Act.put, List.setIfInBounds_toArray, List.set_cons_zero, List.set_cons_succ, List.getElem_toArray, List.getElem_cons_zero, List.getElem_cons_succ]
    refine RG.RunsIf.weak (v := ?_) (by rfl) (by rfl) (fun Z hT => ?_) ?_
    rotate_left
    · go_simp
      rfl
    simp only [Act.put, List.setIfInBounds_toArray, List.set_cons_zero, List.set_cons_succ, List.getElem_toArray, List.getElem_cons_zero, List.getElem_cons_succ]
    refine RG.RunsIf.weak (v := ?_) (by rfl) (by rfl) (fun Z hT => ?_) ?_
    rotate_left
    · go_simp
      rfl
    simp only [Act.put, List.setIfInBounds_toArray, List.set_cons_zero, List.set_cons_succ, List.getElem_toArray, List.getElem_cons_zero, List.getElem_cons_succ]
    refine RG.RunsIf.weak (v := ?_) (by rfl) (by rfl) (fun Z hT => ?_) ?_
    rotate_left
    · go_simp
      rfl
    simp only [Act.put, List.setIfInBounds_toArray, List.set_cons_zero, List.set_cons_succ, List.getElem_toArray, List.getElem_cons_zero, List.getElem_cons_succ]
    refine RG.RunsIf.strong (v := .slice (some ⟨rb, 0, none⟩) n rcap) (by rfl) (by kernel_rfl) (by rfl) (fun Z hT hS => ?_) ?_
    · have z2 := keepC hS z2; have c5 := keepC hS c5; have x4 := keepC hS x4
      go_simp
    simp only [Act.put, List.setIfInBounds_toArray, List.set_cons_zero, List.set_cons_succ, List.getElem_toArray, List.getElem_cons_zero, List.getElem_cons_succ]
    refine RG.RunsIf.weak (v := ?_) (by rfl) (by rfl) (fun Z hT => ?_) ?_
    rotate_left
    · go_simp
      rfl
    simp only [Act.put, List.setIfInBounds_toArray, List.set_cons_zero, List.set_cons_succ, List.getElem_toArray, List.getElem_cons_zero, List.getElem_cons_succ]
    refine RG.RunsIf.weak (v := ?_) (by rfl) (by rfl) (fun Z hT => ?_) ?_
    rotate_left
    · go_simp
      rfl
    simp only [Act.put, List.setIfInBounds_toArray, List.set_cons_zero, List.set_cons_succ, List.getElem_toArray, List.getElem_cons_zero, List.getElem_cons_succ]
    refine RG.RunsIf.strong (v := .int .i64 (r : Int)) (by rfl) (by kernel_rfl) (by rfl) (fun Z hT hS => ?_) ?_
    · have z2 := keepC hS z2; have c5 := keepC hS c5; have x4 := keepC hS x4
      go_simp
    simp only [Act.put, List.setIfInBounds_toArray, List.set_cons_zero, List.set_cons_succ, List.getElem_toArray, List.getElem_cons_zero, List.getElem_cons_succ]
    refine RG.RunsIf.weak (v := ?_) (by rfl) (by rfl) (fun Z hT => ?_) ?_
    rotate_left
    · go_simp
      rfl
    simp only [Act.put, List.setIfInBounds_toArray, List.set_cons_zero, List.set_cons_succ, List.getElem_toArray, List.getElem_cons_zero, List.getElem_cons_succ]
    refine RG.RunsIf.weak (v := ?_) (by rfl) (by rfl) (fun Z hT => ?_) ?_
    rotate_left
    · go_simp
      rfl
    simp only [Act.put, List.setIfInBounds_toArray, List.set_cons_zero, List.set_cons_succ, List.getElem_toArray, List.getElem_cons_zero, List.getElem_cons_succ]
    refine RG.RunsIf.weak (v := ?_) (by rfl) (by rfl) (fun Z hT => ?_) ?_
    rotate_left
    · go_simp
      rfl
    simp only [Act.put, List.setIfInBounds_toArray, List.set_cons_zero, List.set_cons_succ, List.getElem_toArray, List.getElem_cons_zero, List.getElem_cons_succ]
    refine RG.RunsIf.strong (v := .int .i64 v0) (by rfl) (by kernel_rfl) (by rfl) (fun Z hT hS => ?_) ?_
    · have z2 := keepC hS z2; have c5 := keepC hS c5; have x4 := keepC hS x4
      go_simp
    simp only [Act.put, List.setIfInBounds_toArray, List.set_cons_zero, List.set_cons_succ, List.getElem_toArray, List.getElem_cons_zero, List.getElem_cons_succ]
    refine RG.RunsIf.weak (v := ?_) (by rfl) (by rfl) (fun Z hT => ?_) ?_
    rotate_left
    · go_simp
      rfl
    simp only [Act.put, List.setIfInBounds_toArray, List.set_cons_zero, List.set_cons_succ, List.getElem_toArray, List.getElem_cons_zero, List.getElem_cons_succ]
    refine RG.RunsIf.weak (v := ?_) (by rfl) (by rfl) (fun Z hT => ?_) ?_
    rotate_left
    · go_simp
      rfl
    simp only [Act.put, List.setIfInBounds_toArray, List.set_cons_zero, List.set_cons_succ, List.getElem_toArray, List.getElem_cons_zero, List.getElem_cons_succ]
    exact RG.RunsIf.nil
  have HMb := TW.hide (HMB.out.below HBb.out)
  have HEb := TW.hide (HEB.out.below HBb.out)
  have HIb := TW.hide (blk_keep HI.out HBb.out)
  clear HI HMB HEB HBb
  have fz := HEb.out.froz 3
  have cz := HEb.out.cells.2.2.2.1
  have HMC : Hid (WM o (Yb.setCell ⟨ge, 3, none⟩ (.int .i64 v0)) g s pa pc ra rc t m) := HMb.out.setE HEb.out HB.out HN.out 3 _
  have HEC : Hid (EvB (Yb.setCell ⟨ge, 3, none⟩ (.int .i64 v0)) ge ⟨k, 13, ci, v0, false⟩) := HEb.out.setV v0
  have HIC : Hid ((Yb.setCell ⟨ge, 3, none⟩ (.int .i64 v0)).heap[gi]? = some (.cells #[.int .i64 13, .int .i64 (c : Int), .int .i64 (r : Int), .int .i64 a2] 53 (0, 0))) := blk_setN HIb.out HEb.out (by decide)
  refine RG.wpL_late (i := 14) (by kernel_rfl) (by rfl) (by rfl) (by kernel_rfl) (fun KX hK => ?_)
  have HK := TW.hide hK
  clear hK
  go_simp
  refine HK.out _ _ trivial ?_
  clear HK KX cz fz
  refine RG.wpL_done (by kernel_rfl) ?_ _
  refine NoPanic.normal ?_
  clear HMb HEb HIb z0 z1 z2 z3 c5 x4
  generalize Yb.setCell _ _ = C at *
  have HI := HIC
  clear HIC
  obtain ⟨z0, z1, z2, z3⟩ := cellsY4 HI.out
  have c10 := HMC.out.c10
  rw [e10] at c10
  have d2 := HEC.out.cells.2.2.1
  have d3 := HEC.out.cells.2.2.2.1
  go_wp2
  refine wp_region_noPanic ?_
  refine RG.wp_region_L (fun Z => Below C.heap.size C Z) (fun Z => True) [13] (by kernel_rfl) ?_
  refine RG.wpL_any fun Yc hY => ?_
  have HBc : Hid (Below C.heap.size C Yc) := by rw [hY]; exact below_drewN (Below.refl _ _) 1
  clear hY
  refine RG.wpL_take (fuel := 1) (a' := ?Ac) [0, 1, 2, 3, 4, 5, 6, 7, 8, 9, 10, 11, 12] (by kernel_rfl) (by kernel_rfl) (fun _ _ _ _ _ h => h) trivial (fun _ => HBc.out) ?rc ?_
  case rc =>
    refine RG.RunsIf.weak (v := ?_) (by rfl) (by rfl) (fun Z hT => ?_) ?_
    rotate_left
    · go_simp
      rfl
    simp only [Act.put, List.setIfInBounds_toArray, List.set_cons_zero, List.set_cons_succ, List.getElem_toArray, List.getElem_cons_zero, List.getElem_cons_succ]
    refine RG.RunsIf.weak (v := ?_) (by rfl) (by rfl) (fun Z hT => ?_) ?_
    rotate_left
    · go_simp
      rfl
    simp only [Act.put, List.setIfInBounds_toArray, List.set_cons_zero, List.set_cons_succ, List.getElem_toArray, List.getElem_cons_zero, List.getElem_cons_succ]
    refine RG.RunsIf.weak (v := ?_) (by rfl) (by rfl) (fun Z hT => ?_) ?_
    rotate_left
    · go_simp
      rfl
    simp only [Act.put, List.setIfInBounds_toArray, List.set_cons_zero, List.set_cons_succ, List.getElem_toArray, List.getElem_cons_zero, List.getElem_cons_succ]
    refine RG.RunsIf.strong (v := .slice (some ⟨cb, 0, none⟩) cn ccap) (by rfl) (by kernel_rfl) (by rfl) (fun Z hT hS => ?_) ?_
    · have c10 := keepC hS c10; have d2 := keepC hS d2; have d3 := keepC hS d3
      go_simp
    simp only [Act.put, List.setIfInBounds_toArray, List.set_cons_zero, List.set_cons_succ, List.getElem_toArray, List.getElem_cons_zero, List.getElem_cons_succ]
    refine RG.RunsIf.weak (v := ?_) (by rfl) (by rfl) (fun Z hT => ?_) ?_
    rotate_left
    · go_simp
      rfl
    simp only [Act.put, List.setIfInBounds_toArray, List.set_cons_zero, List.set_cons_succ, List.getElem_toArray, List.getElem_cons_zero, List.getElem_cons_succ]
    refine RG.RunsIf.weak (v := ?_) (by rfl) (by rfl) (fun Z hT => ?_) ?_
    rotate_left
    · go_simp
      rfl
    simp only [Act.put, List.setIfInBounds_toArray, List.set_cons_zero, List.set_cons_succ, List.getElem_toArray, List.getElem_cons_zero, List.getElem_cons_succ]
    refine RG.RunsIf.weak (v := ?_) (by rfl) (by rfl) (fun Z hT => ?_) ?_
    rotate_left
    · go_simp
      rfl
    simp only [Act.put, List.setIfInBounds_toArray, List.set_cons_zero, List.set_cons_succ, List.getElem_toArray, List.getElem_cons_zero, List.getElem_cons_succ]
    refine RG.RunsIf.strong (v := .int .i64 (ci : Int)) (by rfl) (by kernel_rfl) (by rfl) (fun Z hT hS => ?_) ?_
    · have c10 := keepC hS c10; have d2 := keepC hS d2; have d3 := keepC hS d3
      go_simp
    simp only [Act.put, List.setIfInBounds_toArray, List.set_cons_zero, List.set_cons_succ, List.getElem_toArray, List.getElem_cons_zero, List.getElem_cons_succ]
    refine RG.RunsIf.weak (v := ?_) (by rfl) (by rfl) (fun Z hT => ?_) ?_
    rotate_left
    · go_simp
      rfl
    simp only [Act.put, List.setIfInBounds_toArray, List.set_cons_zero, List.set_cons_succ, List.getElem_toArray, List.getElem_cons_zero, List.getElem_cons_succ]
    refine RG.RunsIf.weak (v := ?_) (by rfl) (by rfl) (fun Z hT => ?_) ?_
    rotate_left
    · go_simp
      rfl
    simp only [Act.put, List.setIfInBounds_toArray, List.set_cons_zero, List.set_cons_succ, List.getElem_toArray, List.getElem_cons_zero, List.getElem_cons_succ]
    refine RG.RunsIf.weak (v := ?_) (by rfl) (by rfl) (fun Z hT => ?_) ?_
    rotate_left
    · go_simp
      rfl
    simp only [Act.put, List.setIfInBounds_toArray, List.set_cons_zero, List.set_cons_succ, List.getElem_toArray, List.getElem_cons_zero, List.getElem_cons_succ]
    refine RG.RunsIf.strong (v := .int .i64 v0) (by rfl) (by kernel_rfl) (by rfl) (fun Z hT hS => ?_) ?_
    · have c10 := keepC hS c10; have d2 := keepC hS d2; have d3 := keepC hS d3
      go_simp
    simp only [Act.put, List.setIfInBounds_toArray, List.set_cons_zero, List.set_cons_succ, List.getElem_toArray, List.getElem_cons_zero, List.getElem_cons_succ]
    refine RG.RunsIf.weak (v := ?_) (by rfl) (by rfl) (fun Z hT => ?_) ?_
    rotate_left
    · go_simp
      rfl
    simp only [Act.put, List.setIfInBounds_toArray, List.set_cons_zero, List.set_cons_succ, List.getElem_toArray, List.getElem_cons_zero, List.getElem_cons_succ]
    exact RG.RunsIf.nil
  have HMc := TW.hide (HMC.out.below HBc.out)
  have HEc := TW.hide (HEC.out.below HBc.out)
  have HIc := TW.hide (blk_keep HI.out HBc.out)
  clear HI HMC HEC HBc
  obtain ⟨fz, cz⟩ := HCA.out _ HMc.out
  obtain ⟨_, hcur, hhb⟩ := row_is HMc.out.cel (by rw [e10, hcn]) (by omega)
  have hne : cb ≠ ge := by
    rintro rfl
    have := hhb.symm.trans HEc.out
    simp at this
  have HMz := TW.hide (HMc.out.setCe (by rw [e10, hcn]) (by omega) ci v0)
  have HEz : Hid (EvB (Yc.setCell ⟨cb, ci, none⟩ (.int .i64 v0)) ge ⟨k, 13, ci, v0, false⟩) := HEc.out.setB hne
  refine RG.wpL_late (i := 13) (by kernel_rfl) (by rfl) (by rfl) (by kernel_rfl) (fun KX hK => ?_)
  have HK := TW.hide hK
  clear hK
  go_simp
  refine HK.out _ _ trivial ?_
  clear HK KX cz fz
  refine RG.wpL_done (by kernel_rfl) ?_ _
  refine NoPanic.normal ?_
  go_wp2
  rw [← HP.out]
  exact ⟨rfl, m, HMz.out, HEz.out, rfl, rfl, rfl⟩
end LW
end Go.Proofs.Ytghpfhoajcgghaa
