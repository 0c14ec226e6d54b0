/-
  What shared of the document's machine does: locks, groups, works.
-/
import Derived.Test.YtghpfhoajcgghaaSysT
namespace Go.Proofs.Ytghpfhoajcgghaa
open Go.RowKit
set_option linter.unusedVariables false
set_option linter.unusedSimpArgs false
namespace LW
open Mc
theorem lk1_at {o W : World} {g : Nat} {s : Syst} {pa : Option Addr} {pc : Nat} {ra : Option Addr} {rc : Nat} {t : St} {m : WV} (h : WM o W g s pa pc ra rc t m) {c hb cap : Nat} (hc : c < t.locked.length) (e6 : m.lv = .slice (some ⟨hb, 0, none⟩) t.locked.length cap) : W.frozen? ⟨hb, c, none⟩ = false ∧ W.cell? ⟨hb, c, none⟩ = some (.bool (t.locked.getD c false)) := by
  obtain ⟨b, cp, e, _, hf, hr⟩ := h.lk1 c hc
  rw [e6] at e
  injection e with e1
  injection e1 with e1
  injection e1 with e1
  subst e1
  exact ⟨hf, hr⟩
theorem gr1_at {o W : World} {g : Nat} {s : Syst} {pa : Option Addr} {pc : Nat} {ra : Option Addr} {rc : Nat} {t : St} {m : WV} (h : WM o W g s pa pc ra rc t m) {c hb cap : Nat} (hc : c < t.groups.length) (e6 : m.gv = .slice (some ⟨hb, 0, none⟩) t.groups.length cap) : W.frozen? ⟨hb, c, none⟩ = false ∧ W.cell? ⟨hb, c, none⟩ = some (.int .i64 (t.groups.getD c 0)) := by
  obtain ⟨b, cp, e, _, hf, hr⟩ := h.gr1 c hc
  rw [e6] at e
  injection e with e1
  injection e1 with e1
  injection e1 with e1
  subst e1
  exact ⟨hf, hr⟩
theorem ce1_at {o W : World} {g : Nat} {s : Syst} {pa : Option Addr} {pc : Nat} {ra : Option Addr} {rc : Nat} {t : St} {m : WV} (h : WM o W g s pa pc ra rc t m) {c hb cap : Nat} (hc : c < t.cells.length) (e6 : m.cv = .slice (some ⟨hb, 0, none⟩) t.cells.length cap) : W.frozen? ⟨hb, c, none⟩ = false ∧ W.cell? ⟨hb, c, none⟩ = some (.int .i64 (t.cells.getD c 0)) := by
  obtain ⟨b, cp, e, _, hf, hr⟩ := h.ce1 c hc
  rw [e6] at e
  injection e with e1
  injection e1 with e1
  injection e1 with e1
  subst e1
  exact ⟨hf, hr⟩
set_option maxRecDepth 100000 in
set_option maxHeartbeats 4000000 in
theorem rlock {o : World} {g : Nat} {s : Syst} {pa : Option Addr} {pc : Nat} {ra : Option Addr} {rc : Nat} {t : St} {m : WV} (k c r : Nat) (a2 : Int) (ge : Nat) (w : World) (h : WM o w g s pa pc ra rc t m) (hk : k < t.rns.length) (hc : c < t.locked.length) (hE : EvB w ge ⟨k, 8, c, 0, false⟩) (hB : o.heap.size ≤ ge) (hn : m.ev.ownBlock ≠ some ge) :
    Calls Try.prog 39 #[.pointer (some ⟨g, 0, none⟩), .int .i64 k, .agg #[.int .i64 8, .int .i64 (c : Int), .int .i64 (r : Int), .int .i64 a2], .pointer (some ⟨ge, 0, none⟩)] w (ChP o g s pa pc ra rc m ge k 8 (⟨c, 0, false, 0, { t with locked := t.locked.set c true }⟩)) := by
  have HM := TW.hide h
  have HE := TW.hide hE
  have HB := TW.hide hB
  have HN := TW.hide hn
  clear h hE hB hn
  generalize hP : ChP o g s pa pc ra rc m ge k _ _ = POST
  have HP := TW.hide hP
  clear hP
  have hA0 : Below w.heap.size w (w.alloc (.cells #[.int .i64 8, .int .i64 (c : Int), .int .i64 (r : Int), .int .i64 a2] 53)) := (Below.refl _ _).alloc (Nat.le_refl _) _
  have NI0 : (w.alloc (.cells #[.int .i64 8, .int .i64 (c : Int), .int .i64 (r : Int), .int .i64 a2] 53)).heap[w.heap.size]? = some (.cells #[.int .i64 8, .int .i64 (c : Int), .int .i64 (r : Int), .int .i64 a2] 53 (0, 0)) := heap_alloc_new w _
  go_enter Try.func39, Try.ntmps39
  refine wp_seq_k fun K hK => ?_
  have HK := TW.hide hK
  clear hK
  go_wp2
  refine HK.out _ _ ?_
  clear HK K
  have HMV := TW.hide (HM.out.below hA0)
  have HEV := TW.hide (HE.out.below hA0)
  have HI := TW.hide NI0
  clear hA0 NI0 HM HE
  generalize (w.alloc (.cells #[.int .i64 8, .int .i64 (c : Int), .int .i64 (r : Int), .int .i64 a2] 53)) = V at *
  generalize w.heap.size = gi at *
  obtain ⟨z0, z1, z2, z3⟩ := cellsY4 HI.out
  obtain ⟨lb, lcap, e8, _, _, _⟩ := HMV.out.lk1 c hc
  have c8 := HMV.out.c8
  rw [e8] at c8
  have p1 : (c : Int) < (t.locked.length : Int) := by omega
  have p0 : (0 : Int) ≤ (c : Int) := by omega
  go_wp2
  refine wp_region_noPanic ?_
  refine RG.wp_region_L (fun Z => Below V.heap.size V Z) (fun Z => True) [7] (by kernel_rfl) ?_
  refine RG.wpL_any fun Ya hY => ?_
  have HBa : Hid (Below V.heap.size V Ya) := by rw [hY]; exact below_drewN (Below.refl _ _) 1
  clear hY
  refine RG.wpL_take (fuel := 1) (a' := ?Aa) [0, 1, 2, 3, 4, 5, 6] (by kernel_rfl) (by kernel_rfl) (fun _ _ _ _ _ h => h) trivial (fun _ => HBa.out) ?ra ?_
  case ra =>
    refine RG.RunsIf.weak (v := ?_) (by rfl) (by rfl) (fun Z hT => ?_) ?_
    rotate_left
    · go_simp
      rfl
    simp only [Act.put, List.setIfInBounds_toArray, List.set_cons_zero, List.set_cons_succ, List.getElem_toArray, List.getElem_cons_zero, List.getElem_cons_succ]
    refine RG.RunsIf.weak (v := ?_) (by rfl) (by rfl) (fun Z hT => ?_) ?_
    rotate_left
    · go_simp
      rfl
    simp only [Act.put, List.setIfInBounds_toArray, List.set_cons_zero, List.set_cons_succ, List.getElem_toArray, List.getElem_cons_zero, List.getElem_cons_succ]
    refine RG.RunsIf.weak (v := ?_) (by rfl) (by rfl) (fun Z hT => ?_) ?_
    rotate_left
    · go_simp
      rfl
    simp only [Act.put, List.setIfInBounds_toArray, List.set_cons_zero, List.set_cons_succ, List.getElem_toArray, List.getElem_cons_zero, List.getElem_cons_succ]
    refine RG.RunsIf.strong (v := .slice (some ⟨lb, 0, none⟩) t.locked.length lcap) (by rfl) (by kernel_rfl) (by rfl) (fun Z hT hS => ?_) ?_
    · have z1 := keepC hS z1; have c8 := keepC hS c8
      go_simp
    simp only [Act.put, List.setIfInBounds_toArray, List.set_cons_zero, List.set_cons_succ, List.getElem_toArray, List.getElem_cons_zero, List.getElem_cons_succ]
    refine RG.RunsIf.weak (v := ?_) (by rfl) (by rfl) (fun Z hT => ?_) ?_
    rotate_left
    · go_simp
      rfl
    simp only [Act.put, List.setIfInBounds_toArray, List.set_cons_zero, List.set_cons_succ, List.getElem_toArray, List.getElem_cons_zero, List.getElem_cons_succ]
    refine RG.RunsIf.strong (v := .int .i64 (c : Int)) (by rfl) (by kernel_rfl) (by rfl) (fun Z hT hS => ?_) ?_
    · have z1 := keepC hS z1; have c8 := keepC hS c8
      go_simp
    simp only [Act.put, List.setIfInBounds_toArray, List.set_cons_zero, List.set_cons_succ, List.getElem_toArray, List.getElem_cons_zero, List.getElem_cons_succ]
    refine RG.RunsIf.weak (v := ?_) (by rfl) (by rfl) (fun Z hT => ?_) ?_
    rotate_left
    · go_simp
      rfl
    simp only [Act.put, List.setIfInBounds_toArray, List.set_cons_zero, List.set_cons_succ, List.getElem_toArray, List.getElem_cons_zero, List.getElem_cons_succ]
    exact RG.RunsIf.nil
  have HMa := TW.hide (HMV.out.below HBa.out)
  have HEa := TW.hide (HEV.out.below HBa.out)
  have HIa := TW.hide (blk_keep HI.out HBa.out)
  clear HI HMV HEV HBa
  obtain ⟨fz, cz⟩ := lk1_at HMa.out hc e8
  obtain ⟨_, hcur, hhb⟩ := row_is HMa.out.lck e8 (by omega)
  have hne : lb ≠ ge := by
    rintro rfl
    have := hhb.symm.trans HEa.out
    simp at this
  have HMz := TW.hide (HMa.out.setLk e8 (by omega) c true)
  have HEz : Hid (EvB (Ya.setCell ⟨lb, c, none⟩ (.bool true)) ge ⟨k, 8, c, 0, false⟩) := HEa.out.setB hne
  refine RG.wpL_late (i := 7) (by kernel_rfl) (by rfl) (by rfl) (by kernel_rfl) (fun KX hK => ?_)
  have HK := TW.hide hK
  clear hK
  go_simp
  refine HK.out _ _ trivial ?_
  clear HK KX cz fz
  refine RG.wpL_done (by kernel_rfl) ?_ _
  refine NoPanic.normal ?_
  go_wp2
  rw [← HP.out]
  exact ⟨rfl, m, HMz.out, HEz.out, rfl, rfl, rfl⟩
set_option maxRecDepth 100000 in
set_option maxHeartbeats 4000000 in
theorem rfree {o : World} {g : Nat} {s : Syst} {pa : Option Addr} {pc : Nat} {ra : Option Addr} {rc : Nat} {t : St} {m : WV} (k c r : Nat) (a2 : Int) (ge : Nat) (w : World) (h : WM o w g s pa pc ra rc t m) (hk : k < t.rns.length) (hc : c < t.locked.length) (hE : EvB w ge ⟨k, 9, c, 0, false⟩) (hB : o.heap.size ≤ ge) (hn : m.ev.ownBlock ≠ some ge) :
    Calls Try.prog 39 #[.pointer (some ⟨g, 0, none⟩), .int .i64 k, .agg #[.int .i64 9, .int .i64 (c : Int), .int .i64 (r : Int), .int .i64 a2], .pointer (some ⟨ge, 0, none⟩)] w (ChP o g s pa pc ra rc m ge k 9 (if t.locked.getD c false then ⟨c, 0, false, 0, { t with locked := t.locked.set c false }⟩ else ⟨c, 0, false, 133, t⟩)) := by
  have HM := TW.hide h
  have HE := TW.hide hE
  have HB := TW.hide hB
  have HN := TW.hide hn
  clear h hE hB hn
  generalize hP : ChP o g s pa pc ra rc m ge k _ _ = POST
  have HP := TW.hide hP
  clear hP
  have hA0 : Below w.heap.size w (w.alloc (.cells #[.int .i64 9, .int .i64 (c : Int), .int .i64 (r : Int), .int .i64 a2] 53)) := (Below.refl _ _).alloc (Nat.le_refl _) _
  have NI0 : (w.alloc (.cells #[.int .i64 9, .int .i64 (c : Int), .int .i64 (r : Int), .int .i64 a2] 53)).heap[w.heap.size]? = some (.cells #[.int .i64 9, .int .i64 (c : Int), .int .i64 (r : Int), .int .i64 a2] 53 (0, 0)) := heap_alloc_new w _
  go_enter Try.func39, Try.ntmps39
  refine wp_seq_k fun K hK => ?_
  have HK := TW.hide hK
  clear hK
  go_wp2
  refine HK.out _ _ ?_
  clear HK K
  have HMV := TW.hide (HM.out.below hA0)
  have HEV := TW.hide (HE.out.below hA0)
  have HI := TW.hide NI0
  clear hA0 NI0 HM HE
  generalize (w.alloc (.cells #[.int .i64 9, .int .i64 (c : Int), .int .i64 (r : Int), .int .i64 a2] 53)) = V at *
  generalize w.heap.size = gi at *
  obtain ⟨z0, z1, z2, z3⟩ := cellsY4 HI.out
  obtain ⟨lb, lcap, e8, _, _, x2⟩ := HMV.out.lk1 c hc
  have c8 := HMV.out.c8
  rw [e8] at c8
  have p1 : (c : Int) < (t.locked.length : Int) := by omega
  have p0 : (0 : Int) ≤ (c : Int) := by omega
  generalize t.locked.getD c false = sh at *
  go_wp2
  go_quiet (fail)
  replace HI := TW.hide (blk_keep HI.out (below_drewN (Below.refl V.heap.size V) nq))
  have HMX := TW.hide (HMV.out.below (below_drewN (Below.refl V.heap.size V) nq))
  have HEX := TW.hide (HEV.out.below (below_drewN (Below.refl V.heap.size V) nq))
  clear HMV HEV
  generalize V.drewN nq = X at *
  clear z0 z1 z2 z3
  obtain ⟨z0, z1, z2, z3⟩ := cellsY4 HI.out
  clear x2 c8
  cases sh with
  | false =>
    go_wp2
    rw [← HP.out]
    exact ⟨rfl, m, HMX.out, HEX.out, rfl, rfl, rfl⟩
  | true =>
    go_wp2
    have c8 := HMX.out.c8
    rw [e8] at c8
    refine wp_region_noPanic ?_
    refine RG.wp_region_L (fun Z => Below X.heap.size X Z) (fun Z => True) [7] (by kernel_rfl) ?_
    refine RG.wpL_any fun Ya hY => ?_
    have HBa : Hid (Below X.heap.size X Ya) := by rw [hY]; exact below_drewN (Below.refl _ _) 1
    clear hY
    refine RG.wpL_take (fuel := 1) (a' := ?Aa) [0, 1, 2, 3, 4, 5, 6] (by kernel_rfl) (by kernel_rfl) (fun _ _ _ _ _ h => h) trivial (fun _ => HBa.out) ?ra ?_
    case ra =>
      refine RG.RunsIf.weak (v := ?_) (by rfl) (by rfl) (fun Z hT => ?_) ?_
      rotate_left
      · go_simp
        rfl
      simp only [Act.put, List.setIfInBounds_toArray, List.set_cons_zero, List.set_cons_succ, List.getElem_toArray, List.getElem_cons_zero, List.getElem_cons_succ]
      refine RG.RunsIf.weak (v := ?_) (by rfl) (by rfl) (fun Z hT => ?_) ?_
      rotate_left
      · go_simp
        rfl
      simp only [Act.put, List.setIfInBounds_toArray, List.set_cons_zero, List.set_cons_succ, List.getElem_toArray, List.getElem_cons_zero, List.getElem_cons_succ]
      refine RG.RunsIf.weak (v := ?_) (by rfl) (by rfl) (fun Z hT => ?_) ?_
      rotate_left
      · go_simp
        rfl
      simp only [Act.put, List.setIfInBounds_toArray, List.set_cons_zero, List.set_cons_succ, List.getElem_toArray, List.getElem_cons_zero, List.getElem_cons_succ]
      refine RG.RunsIf.strong (v := .slice (some ⟨lb, 0, none⟩) t.locked.length lcap) (by rfl) (by kernel_rfl) (by rfl) (fun Z hT hS => ?_) ?_
      · have z1 := keepC hS z1; have c8 := keepC hS c8
        go_simp
      simp only [Act.put, List.setIfInBounds_toArray, List.set_cons_zero, List.set_cons_succ, List.getElem_toArray, List.getElem_cons_zero, List.getElem_cons_succ]
      refine RG.RunsIf.weak (v := ?_) (by rfl) (by rfl) (fun Z hT => ?_) ?_
      rotate_left
      · go_simp
        rfl
      simp only [Act.put, List.setIfInBounds_toArray, List.set_cons_zero, List.set_cons_succ, List.getElem_toArray, List.getElem_cons_zero, List.getElem_cons_succ]
      refine RG.RunsIf.strong (v := .int .i64 (c : Int)) (by rfl) (by kernel_rfl) (by rfl) (fun Z hT hS => ?_) ?_
      · have z1 := keepC hS z1; have c8 := keepC hS c8
        go_simp
      simp only [Act.put, List.setIfInBounds_toArray, List.set_cons_zero, List.set_cons_succ, List.getElem_toArray, List.getElem_cons_zero, List.getElem_cons_succ]
      refine RG.RunsIf.weak (v := ?_) (by rfl) (by rfl) (fun Z hT => ?_) ?_
      rotate_left
      · go_simp
        rfl
      simp only [Act.put, List.setIfInBounds_toArray, List.set_cons_zero, List.set_cons_succ, List.getElem_toArray, List.getElem_cons_zero, List.getElem_cons_succ]
      exact RG.RunsIf.nil
    have HMa := TW.hide (HMX.out.below HBa.out)
    have HEa := TW.hide (HEX.out.below HBa.out)
    have HIa := TW.hide (blk_keep HI.out HBa.out)
    clear HI HMX HEX HBa
    obtain ⟨fz, cz⟩ := lk1_at HMa.out hc e8
    obtain ⟨_, hcur, hhb⟩ := row_is HMa.out.lck e8 (by omega)
    have hne : lb ≠ ge := by
      rintro rfl
      have := hhb.symm.trans HEa.out
      simp at this
    have HMz := TW.hide (HMa.out.setLk e8 (by omega) c false)
    have HEz : Hid (EvB (Ya.setCell ⟨lb, c, none⟩ (.bool false)) ge ⟨k, 9, c, 0, false⟩) := HEa.out.setB hne
    refine RG.wpL_late (i := 7) (by kernel_rfl) (by rfl) (by rfl) (by kernel_rfl) (fun KX hK => ?_)
    have HK := TW.hide hK
    clear hK
    go_simp
    refine HK.out _ _ trivial ?_
    clear HK KX cz fz
    refine RG.wpL_done (by kernel_rfl) ?_ _
    refine NoPanic.normal ?_
    go_wp2
    rw [← HP.out]
    exact ⟨rfl, m, HMz.out, HEz.out, rfl, rfl, rfl⟩
set_option maxRecDepth 100000 in
set_option maxHeartbeats 4000000 in
theorem radd {o : World} {g : Nat} {s : Syst} {pa : Option Addr} {pc : Nat} {ra : Option Addr} {rc : Nat} {t : St} {m : WV} (k c r : Nat) (a2 : Int) (ge : Nat) (w : World) (h : WM o w g s pa pc ra rc t m) (hk : k < t.rns.length) (b0 : Int) (hc : c < t.groups.length) (hE : EvB w ge ⟨k, 10, c, 0, false⟩) (hB : o.heap.size ≤ ge) (hn : m.ev.ownBlock ≠ some ge) :
    Calls Try.prog 39 #[.pointer (some ⟨g, 0, none⟩), .int .i64 k, .agg #[.int .i64 10, .int .i64 (c : Int), .int .i64 b0, .int .i64 a2], .pointer (some ⟨ge, 0, none⟩)] w (ChP o g s pa pc ra rc m ge k 10 (if IntKind.i64.wrap (t.groups.getD c 0 + b0) < 0 then ⟨c, IntKind.i64.wrap (t.groups.getD c 0 + b0), false, 134, t⟩ else ⟨c, IntKind.i64.wrap (t.groups.getD c 0 + b0), false, 0, { t with groups := t.groups.set c (IntKind.i64.wrap (t.groups.getD c 0 + b0)) }⟩)) := by
  have HM := TW.hide h
  have HE := TW.hide hE
  have HB := TW.hide hB
  have HN := TW.hide hn
  clear h hE hB hn
  generalize hP : ChP o g s pa pc ra rc m ge k _ _ = POST
  have HP := TW.hide hP
  clear hP
  have hA0 : Below w.heap.size w (w.alloc (.cells #[.int .i64 10, .int .i64 (c : Int), .int .i64 b0, .int .i64 a2] 53)) := (Below.refl _ _).alloc (Nat.le_refl _) _
  have NI0 : (w.alloc (.cells #[.int .i64 10, .int .i64 (c : Int), .int .i64 b0, .int .i64 a2] 53)).heap[w.heap.size]? = some (.cells #[.int .i64 10, .int .i64 (c : Int), .int .i64 b0, .int .i64 a2] 53 (0, 0)) := heap_alloc_new w _
  go_enter Try.func39, Try.ntmps39
  refine wp_seq_k fun K hK => ?_
  have HK := TW.hide hK
  clear hK
  go_wp2
  refine HK.out _ _ ?_
  clear HK K
  have HMV := TW.hide (HM.out.below hA0)
  have HEV := TW.hide (HE.out.below hA0)
  have HI := TW.hide NI0
  clear hA0 NI0 HM HE
  generalize (w.alloc (.cells #[.int .i64 10, .int .i64 (c : Int), .int .i64 b0, .int .i64 a2] 53)) = V at *
  generalize w.heap.size = gi at *
  obtain ⟨z0, z1, z2, z3⟩ := cellsY4 HI.out
  obtain ⟨gb, gcap, e9, _, _, x2⟩ := HMV.out.gr1 c hc
  have c9 := HMV.out.c9
  rw [e9] at c9
  have p1 : (c : Int) < (t.groups.length : Int) := by omega
  have p0 : (0 : Int) ≤ (c : Int) := by omega
  have HGA : Hid (∀ W, WM o W g s pa pc ra rc t m → W.frozen? ⟨gb, c, none⟩ = false ∧ W.cell? ⟨gb, c, none⟩ = some (.int .i64 (t.groups.getD c 0))) := fun W hW => gr1_at hW hc e9
  generalize t.groups.getD c 0 = x0 at *
  generalize kw : IntKind.i64.wrap (x0 + b0) = G at *
  go_wp2
  refine wp_region_noPanic ?_
  refine RG.wp_region_L (fun Z => Below V.heap.size V Z) (fun Z => True) [14] (by kernel_rfl) ?_
  refine RG.wpL_any fun Ya hY => ?_
  have HBa : Hid (Below V.heap.size V Ya) := by rw [hY]; exact below_drewN (Below.refl _ _) 1
  clear hY
  refine RG.wpL_take (fuel := 1) (a' := ?Aa) [0, 1, 2, 3, 4, 5, 6, 7, 8, 9, 10, 11, 12, 13] (by kernel_rfl) (by kernel_rfl) (fun _ _ _ _ _ h => h) trivial (fun _ => HBa.out) ?ra ?_
  case ra =>
    refine RG.RunsIf.weak (v := ?_) (by rfl) (by rfl) (fun Z hT => ?_) ?_
    rotate_left
    · go_simp
      rfl
    simp only [Act.put, List.setIfInBounds_toArray, List.set_cons_zero, List.set_cons_succ, List.getElem_toArray, List.getElem_cons_zero, List.getElem_cons_succ]
    refine RG.RunsIf.weak (v := ?_) (by rfl) (by rfl) (fun Z hT => ?_) ?_
    rotate_left
    · go_simp
      rfl
    simp only [Act.put, List.setIfInBounds_toArray, List.set_cons_zero, List.set_cons_succ, List.getElem_toArray, List.getElem_cons_zero, List.getElem_cons_succ]
    refine RG.RunsIf.weak (v := ?_) (by rfl) (by rfl) (fun Z hT => ?_) ?_
    rotate_left
    · go_simp
      rfl
    simp only [Act.put, List.setIfInBounds_toArray, List.set_cons_zero, List.set_cons_succ, List.getElem_toArray, List.getElem_cons_zero, List.getElem_cons_succ]
    refine RG.RunsIf.weak (v := ?_) (by rfl) (by rfl) (fun Z hT => ?_) ?_
    rotate_left
    · go_simp
      rfl
    simp only [Act.put, List.setIfInBounds_toArray, List.set_cons_zero, List.set_cons_succ, List.getElem_toArray, List.getElem_cons_zero, List.getElem_cons_succ]
    refine RG.RunsIf.strong (v := .slice (some ⟨gb, 0, none⟩) t.groups.length gcap) (by rfl) (by kernel_rfl) (by rfl) (fun Z hT hS => ?_) ?_
    · have z1 := keepC hS z1; have z2 := keepC hS z2; have c9 := keepC hS c9; have x2 := keepC hS x2
      go_simp
    simp only [Act.put, List.setIfInBounds_toArray, List.set_cons_zero, List.set_cons_succ, List.getElem_toArray, List.getElem_cons_zero, List.getElem_cons_succ]
    refine RG.RunsIf.weak (v := ?_) (by rfl) (by rfl) (fun Z hT => ?_) ?_
    rotate_left
    · go_simp
      rfl
    simp only [Act.put, List.setIfInBounds_toArray, List.set_cons_zero, List.set_cons_succ, List.getElem_toArray, List.getElem_cons_zero, List.getElem_cons_succ]
    refine RG.RunsIf.strong (v := .int .i64 (c : Int)) (by rfl) (by kernel_rfl) (by rfl) (fun Z hT hS => ?_) ?_
    · have z1 := keepC hS z1; have z2 := keepC hS z2; have c9 := keepC hS c9; have x2 := keepC hS x2
      go_simp
    simp only [Act.put, List.setIfInBounds_toArray, List.set_cons_zero, List.set_cons_succ, List.getElem_toArray, List.getElem_cons_zero, List.getElem_cons_succ]
    refine RG.RunsIf.weak (v := ?_) (by rfl) (by rfl) (fun Z hT => ?_) ?_
    rotate_left
    · go_simp
      rfl
    simp only [Act.put, List.setIfInBounds_toArray, List.set_cons_zero, List.set_cons_succ, List.getElem_toArray, List.getElem_cons_zero, List.getElem_cons_succ]
    refine RG.RunsIf.strong (v := .int .i64 x0) (by rfl) (by kernel_rfl) (by rfl) (fun Z hT hS => ?_) ?_
    · have z1 := keepC hS z1; have z2 := keepC hS z2; have c9 := keepC hS c9; have x2 := keepC hS x2
      go_simp
    simp only [Act.put, List.setIfInBounds_toArray, List.set_cons_zero, List.set_cons_succ, List.getElem_toArray, List.getElem_cons_zero, List.getElem_cons_succ]
    refine RG.RunsIf.weak (v := ?_) (by rfl) (by rfl) (fun Z hT => ?_) ?_
    rotate_left
    · go_simp
      rfl
    simp only [Act.put, List.setIfInBounds_toArray, List.set_cons_zero, List.set_cons_succ, List.getElem_toArray, List.getElem_cons_zero, List.getElem_cons_succ]
    refine RG.RunsIf.strong (v := .int .i64 b0) (by rfl) (by kernel_rfl) (by rfl) (fun Z hT hS => ?_) ?_
    · have z1 := keepC hS z1; have z2 := keepC hS z2; have c9 := keepC hS c9; have x2 := keepC hS x2
      go_simp
    simp only [Act.put, List.setIfInBounds_toArray, List.set_cons_zero, List.set_cons_succ, List.getElem_toArray, List.getElem_cons_zero, List.getElem_cons_succ]
    refine RG.RunsIf.strong (v := .int .i64 G) (by rfl) (by kernel_rfl) (by rfl) (fun Z hT hS => ?_) ?_
    · have z1 := keepC hS z1; have z2 := keepC hS z2; have c9 := keepC hS c9; have x2 := keepC hS x2
      go_simp
    simp only [Act.put, List.setIfInBounds_toArray, List.set_cons_zero, List.set_cons_succ, List.getElem_toArray, List.getElem_cons_zero, List.getElem_cons_succ]
    refine RG.RunsIf.weak (v := ?_) (by rfl) (by rfl) (fun Z hT => ?_) ?_
    rotate_left
    · go_simp
      rfl
    simp only [Act.put, List.setIfInBounds_toArray, List.set_cons_zero, List.set_cons_succ, List.getElem_toArray, List.getElem_cons_zero, List.getElem_cons_succ]
    refine RG.RunsIf.weak (v := ?_) (by rfl) (by rfl) (fun Z hT => ?_) ?_
    rotate_left
    · go_simp
      rfl
    simp only [Act.put, List.setIfInBounds_toArray, List.set_cons_zero, List.set_cons_succ, List.getElem_toArray, List.getElem_cons_zero, List.getElem_cons_succ]
    exact RG.RunsIf.nil
  have HMa := TW.hide (HMV.out.below HBa.out)
  have HEa := TW.hide (HEV.out.below HBa.out)
  have HIa := TW.hide (blk_keep HI.out HBa.out)
  clear HI HMV HEV HBa
  have fz := HEa.out.froz 3
  have cz := HEa.out.cells.2.2.2.1
  have HMB : Hid (WM o (Ya.setCell ⟨ge, 3, none⟩ (.int .i64 G)) g s pa pc ra rc t m) := HMa.out.setE HEa.out HB.out HN.out 3 _
  have HEB : Hid (EvB (Ya.setCell ⟨ge, 3, none⟩ (.int .i64 G)) ge ⟨k, 10, c, G, false⟩) := HEa.out.setV G
  have HIB : Hid ((Ya.setCell ⟨ge, 3, none⟩ (.int .i64 G)).heap[gi]? = some (.cells #[.int .i64 10, .int .i64 (c : Int), .int .i64 b0, .int .i64 a2] 53 (0, 0))) := blk_setN HIa.out HEa.out (by decide)
  refine RG.wpL_late (i := 14) (by kernel_rfl) (by rfl) (by rfl) (by kernel_rfl) (fun KX hK => ?_)
  have HK := TW.hide hK
  clear hK
  go_simp
  refine HK.out _ _ trivial ?_
  clear HK KX cz fz
  refine RG.wpL_done (by kernel_rfl) ?_ _
  refine NoPanic.normal ?_
  clear HMa HEa HIa z0 z1 z2 z3 c9 x2 kw
  generalize Ya.setCell _ _ = B at *
  have HI := HIB
  clear HIB
  obtain ⟨z0, z1, z2, z3⟩ := cellsY4 HI.out
  have d3 := HEB.out.cells.2.2.2.1
  by_cases hG : G < 0
  · rw [if_pos hG] at HP
    go_wp2
    rw [← HP.out]
    exact ⟨rfl, m, HMB.out, HEB.out, rfl, rfl, rfl⟩
  · rw [if_neg hG] at HP
    go_wp2
    have c9 := HMB.out.c9
    rw [e9] at c9
    refine wp_region_noPanic ?_
    refine RG.wp_region_L (fun Z => Below B.heap.size B Z) (fun Z => True) [11] (by kernel_rfl) ?_
    refine RG.wpL_any fun Yb hY => ?_
    have HBb : Hid (Below B.heap.size B Yb) := by rw [hY]; exact below_drewN (Below.refl _ _) 1
    clear hY
    refine RG.wpL_take (fuel := 1) (a' := ?Ab) [0, 1, 2, 3, 4, 5, 6, 7, 8, 9, 10] (by kernel_rfl) (by kernel_rfl) (fun _ _ _ _ _ h => h) trivial (fun _ => HBb.out) ?rb ?_
    case rb =>
      refine RG.RunsIf.weak (v := ?_) (by rfl) (by rfl) (fun Z hT => ?_) ?_
      rotate_left
      · go_simp
        rfl
      simp only [Act.put, List.setIfInBounds_toArray, List.set_cons_zero, List.set_cons_succ, List.getElem_toArray, List.getElem_cons_zero, List.getElem_cons_succ]
      refine RG.RunsIf.weak (v := ?_) (by rfl) (by rfl) (fun Z hT => ?_) ?_
      rotate_left
      · go_simp
        rfl
      simp only [Act.put, List.setIfInBounds_toArray, List.set_cons_zero, List.set_cons_succ, List.getElem_toArray, List.getElem_cons_zero, List.getElem_cons_succ]
      refine RG.RunsIf.weak (v := ?_) (by rfl) (by rfl) (fun Z hT => ?_) ?_
      rotate_left
      · go_simp
        rfl
      simp only [Act.put, List.setIfInBounds_toArray, List.set_cons_zero, List.set_cons_succ, List.getElem_toArray, List.getElem_cons_zero, List.getElem_cons_succ]
      refine RG.RunsIf.strong (v := .slice (some ⟨gb, 0, none⟩) t.groups.length gcap) (by rfl) (by kernel_rfl) (by rfl) (fun Z hT hS => ?_) ?_
      · have z1 := keepC hS z1; have c9 := keepC hS c9; have d3 := keepC hS d3
        go_simp
      simp only [Act.put, List.setIfInBounds_toArray, List.set_cons_zero, List.set_cons_succ, List.getElem_toArray, List.getElem_cons_zero, List.getElem_cons_succ]
      refine RG.RunsIf.weak (v := ?_) (by rfl) (by rfl) (fun Z hT => ?_) ?_
      rotate_left
      · go_simp
        rfl
      simp only [Act.put, List.setIfInBounds_toArray, List.set_cons_zero, List.set_cons_succ, List.getElem_toArray, List.getElem_cons_zero, List.getElem_cons_succ]
      refine RG.RunsIf.strong (v := .int .i64 (c : Int)) (by rfl) (by kernel_rfl) (by rfl) (fun Z hT hS => ?_) ?_
      · have z1 := keepC hS z1; have c9 := keepC hS c9; have d3 := keepC hS d3
        go_simp
      simp only [Act.put, List.setIfInBounds_toArray, List.set_cons_zero, List.set_cons_succ, List.getElem_toArray, List.getElem_cons_zero, List.getElem_cons_succ]
      refine RG.RunsIf.weak (v := ?_) (by rfl) (by rfl) (fun Z hT => ?_) ?_
      rotate_left
      · go_simp
        rfl
      simp only [Act.put, List.setIfInBounds_toArray, List.set_cons_zero, List.set_cons_succ, List.getElem_toArray, List.getElem_cons_zero, List.getElem_cons_succ]
      refine RG.RunsIf.weak (v := ?_) (by rfl) (by rfl) (fun Z hT => ?_) ?_
      rotate_left
      · go_simp
        rfl
      simp only [Act.put, List.setIfInBounds_toArray, List.set_cons_zero, List.set_cons_succ, List.getElem_toArray, List.getElem_cons_zero, List.getElem_cons_succ]
      refine RG.RunsIf.weak (v := ?_) (by rfl) (by rfl) (fun Z hT => ?_) ?_
      rotate_left
      · go_simp
        rfl
      simp only [Act.put, List.setIfInBounds_toArray, List.set_cons_zero, List.set_cons_succ, List.getElem_toArray, List.getElem_cons_zero, List.getElem_cons_succ]
      refine RG.RunsIf.strong (v := .int .i64 G) (by rfl) (by kernel_rfl) (by rfl) (fun Z hT hS => ?_) ?_
      · have z1 := keepC hS z1; have c9 := keepC hS c9; have d3 := keepC hS d3
        go_simp
      simp only [Act.put, List.setIfInBounds_toArray, List.set_cons_zero, List.set_cons_succ, List.getElem_toArray, List.getElem_cons_zero, List.getElem_cons_succ]
      refine RG.RunsIf.weak (v := ?_) (by rfl) (by rfl) (fun Z hT => ?_) ?_
      rotate_left
      · go_simp
        rfl
      simp only [Act.put, List.setIfInBounds_toArray, List.set_cons_zero, List.set_cons_succ, List.getElem_toArray, List.getElem_cons_zero, List.getElem_cons_succ]
      exact RG.RunsIf.nil
    have HMb := TW.hide (HMB.out.below HBb.out)
    have HEb := TW.hide (HEB.out.below HBb.out)
    have HIb := TW.hide (blk_keep HI.out HBb.out)
    clear HI HMB HEB HBb
    obtain ⟨fz, cz⟩ := HGA.out _ HMb.out
    obtain ⟨_, hcur, hhb⟩ := row_is HMb.out.grp e9 (by omega)
    have hne : gb ≠ ge := by
      rintro rfl
      have := hhb.symm.trans HEb.out
      simp at this
    have HMz := TW.hide (HMb.out.setGr e9 (by omega) c G)
    have HEz : Hid (EvB (Yb.setCell ⟨gb, c, none⟩ (.int .i64 G)) ge ⟨k, 10, c, G, false⟩) := HEb.out.setB hne
    refine RG.wpL_late (i := 11) (by kernel_rfl) (by rfl) (by rfl) (by kernel_rfl) (fun KX hK => ?_)
    have HK := TW.hide hK
    clear hK
    go_simp
    refine HK.out _ _ trivial ?_
    clear HK KX cz fz
    refine RG.wpL_done (by kernel_rfl) ?_ _
    refine NoPanic.normal ?_
    go_wp2
    rw [← HP.out]
    exact ⟨rfl, m, HMz.out, HEz.out, rfl, rfl, rfl⟩
set_option maxRecDepth 100000 in
set_option maxHeartbeats 4000000 in
theorem rwait {o : World} {g : Nat} {s : Syst} {pa : Option Addr} {pc : Nat} {ra : Option Addr} {rc : Nat} {t : St} {m : WV} (k c r : Nat) (a2 : Int) (ge : Nat) (w : World) (h : WM o w g s pa pc ra rc t m) (hk : k < t.rns.length)  (hE : EvB w ge ⟨k, 11, c, 0, false⟩) (hB : o.heap.size ≤ ge) (hn : m.ev.ownBlock ≠ some ge) :
    Calls Try.prog 39 #[.pointer (some ⟨g, 0, none⟩), .int .i64 k, .agg #[.int .i64 11, .int .i64 (c : Int), .int .i64 (r : Int), .int .i64 a2], .pointer (some ⟨ge, 0, none⟩)] w (ChP o g s pa pc ra rc m ge k 11 (⟨c, 0, false, 0, t⟩)) := by
  have HM := TW.hide h
  have HE := TW.hide hE
  have HB := TW.hide hB
  have HN := TW.hide hn
  clear h hE hB hn
  generalize hP : ChP o g s pa pc ra rc m ge k _ _ = POST
  have HP := TW.hide hP
  clear hP
  have hA0 : Below w.heap.size w (w.alloc (.cells #[.int .i64 11, .int .i64 (c : Int), .int .i64 (r : Int), .int .i64 a2] 53)) := (Below.refl _ _).alloc (Nat.le_refl _) _
  have NI0 : (w.alloc (.cells #[.int .i64 11, .int .i64 (c : Int), .int .i64 (r : Int), .int .i64 a2] 53)).heap[w.heap.size]? = some (.cells #[.int .i64 11, .int .i64 (c : Int), .int .i64 (r : Int), .int .i64 a2] 53 (0, 0)) := heap_alloc_new w _
  go_enter Try.func39, Try.ntmps39
  refine wp_seq_k fun K hK => ?_
  have HK := TW.hide hK
  clear hK
  go_wp2
  refine HK.out _ _ ?_
  clear HK K
  have HMV := TW.hide (HM.out.below hA0)
  have HEV := TW.hide (HE.out.below hA0)
  have HI := TW.hide NI0
  clear hA0 NI0 HM HE
  generalize (w.alloc (.cells #[.int .i64 11, .int .i64 (c : Int), .int .i64 (r : Int), .int .i64 a2] 53)) = V at *
  generalize w.heap.size = gi at *
  obtain ⟨z0, z1, z2, z3⟩ := cellsY4 HI.out
  go_wp2
  rw [← HP.out]
  exact ⟨rfl, m, HMV.out, HEV.out, rfl, rfl, rfl⟩
set_option maxRecDepth 100000 in
set_option maxHeartbeats 4000000 in
theorem rwork {o : World} {g : Nat} {s : Syst} {pa : Option Addr} {pc : Nat} {ra : Option Addr} {rc : Nat} {t : St} {m : WV} (k c r : Nat) (a2 : Int) (ge : Nat) (w : World) (h : WM o w g s pa pc ra rc t m) (hk : k < t.rns.length) (a0 : Int) (hr : r < 8) (hE : EvB w ge ⟨k, 15, a0, 0, false⟩) (hB : o.heap.size ≤ ge) (hn : m.ev.ownBlock ≠ some ge) :
    Calls Try.prog 39 #[.pointer (some ⟨g, 0, none⟩), .int .i64 k, .agg #[.int .i64 15, .int .i64 a0, .int .i64 (r : Int), .int .i64 a2], .pointer (some ⟨ge, 0, none⟩)] w (ChP o g s pa pc ra rc m ge k 15 (⟨a0, reg t k (r : Int), false, 0, t⟩)) := by
  have HM := TW.hide h
  have HE := TW.hide hE
  have HB := TW.hide hB
  have HN := TW.hide hn
  clear h hE hB hn
  generalize hP : ChP o g s pa pc ra rc m ge k _ _ = POST
  have HP := TW.hide hP
  clear hP
  have hA0 : Below w.heap.size w (w.alloc (.cells #[.int .i64 15, .int .i64 a0, .int .i64 (r : Int), .int .i64 a2] 53)) := (Below.refl _ _).alloc (Nat.le_refl _) _
  have NI0 : (w.alloc (.cells #[.int .i64 15, .int .i64 a0, .int .i64 (r : Int), .int .i64 a2] 53)).heap[w.heap.size]? = some (.cells #[.int .i64 15, .int .i64 a0, .int .i64 (r : Int), .int .i64 a2] 53 (0, 0)) := heap_alloc_new w _
  go_enter Try.func39, Try.ntmps39
  refine wp_seq_k fun K hK => ?_
  have HK := TW.hide hK
  clear hK
  go_wp2
  refine HK.out _ _ ?_
  clear HK K
  have HMV := TW.hide (HM.out.below hA0)
  have HEV := TW.hide (HE.out.below hA0)
  have HI := TW.hide NI0
  clear hA0 NI0 HM HE
  generalize (w.alloc (.cells #[.int .i64 15, .int .i64 a0, .int .i64 (r : Int), .int .i64 a2] 53)) = V at *
  generalize w.heap.size = gi at *
  obtain ⟨z0, z1, z2, z3⟩ := cellsY4 HI.out
  obtain ⟨rb, rcap, e5, hrbB, x1⟩ := HMV.out.reg1 k hk r hr
  have c5 := HMV.out.c5
  rw [e5] at c5
  have k1 : (k : Int) < (t.rns.length : Int) := by omega
  have k0 : (0 : Int) ≤ (k : Int) := by omega
  have r1 : (r : Int) < 8 := by omega
  have r0 : (0 : Int) ≤ (r : Int) := by omega
  generalize hnn : t.rns.length = n at e5 c5 k1
  generalize reg t k (r : Int) = v at *
  go_wp2
  refine wp_region_noPanic ?_
  refine RG.wp_region_L (fun Z => Below V.heap.size V Z) (fun Z => True) [14] (by kernel_rfl) ?_
  refine RG.wpL_any fun Ya hY => ?_
  have HBa : Hid (Below V.heap.size V Ya) := by rw [hY]; exact below_drewN (Below.refl _ _) 1
  clear hY
  refine RG.wpL_take (fuel := 1) (a' := ?Aa) [0, 1, 2, 3, 4, 5, 6, 7, 8, 9, 10, 11, 12, 13] (by kernel_rfl) (by kernel_rfl) (fun _ _ _ _ _ h => h) trivial (fun _ => HBa.out) ?ra ?_
  case ra =>
    refine RG.RunsIf.weak (v := ?_) (by rfl) (by rfl) (fun Z hT => ?_) ?_
    rotate_left
    · go_simp
      rfl
    simp only [Act.put, List.setIfInBounds_toArray, List.set_cons_zero, List.set_cons_succ, List.getElem_toArray, List.getElem_cons_zero, List.getElem_cons_succ]
    refine RG.RunsIf.weak (v := ?_) (by rfl) (by rfl) (fun Z hT => ?_) ?_
    rotate_left
    · go_simp
      rfl
    simp only [Act.put, List.setIfInBounds_toArray, List.set_cons_zero, List.set_cons_succ, List.getElem_toArray, List.getElem_cons_zero, List.getElem_cons_succ]
    refine RG.RunsIf.weak (v := ?_) (by rfl) (by rfl) (fun Z hT => ?_) ?_
    rotate_left
    · go_simp
      rfl
    simp only [Act.put, List.setIfInBounds_toArray, List.set_cons_zero, List.set_cons_succ, List.getElem_toArray, List.getElem_cons_zero, List.getElem_cons_succ]
    refine RG.RunsIf.weak (v := ?_) (by rfl) (by rfl) (fun Z hT => ?_) ?_
    rotate_left
    · go_simp
      rfl
    simp only [Act.put, List.setIfInBounds_toArray, List.set_cons_zero, List.set_cons_succ, List.getElem_toArray, List.getElem_cons_zero, List.getElem_cons_succ]
    refine RG.RunsIf.strong (v := .slice (some ⟨rb, 0, none⟩) n rcap) (by rfl) (by kernel_rfl) (by rfl) (fun Z hT hS => ?_) ?_
    · have z2 := keepC hS z2; have c5 := keepC hS c5; have x1 := keepC hS x1
      go_simp
    simp only [Act.put, List.setIfInBounds_toArray, List.set_cons_zero, List.set_cons_succ, List.getElem_toArray, List.getElem_cons_zero, List.getElem_cons_succ]
    refine RG.RunsIf.weak (v := ?_) (by rfl) (by rfl) (fun Z hT => ?_) ?_
    rotate_left
    · go_simp
      rfl
    simp only [Act.put, List.setIfInBounds_toArray, List.set_cons_zero, List.set_cons_succ, List.getElem_toArray, List.getElem_cons_zero, List.getElem_cons_succ]
    refine RG.RunsIf.weak (v := ?_) (by rfl) (by rfl) (fun Z hT => ?_) ?_
    rotate_left
    · go_simp
      rfl
    simp only [Act.put, List.setIfInBounds_toArray, List.set_cons_zero, List.set_cons_succ, List.getElem_toArray, List.getElem_cons_zero, List.getElem_cons_succ]
    refine RG.RunsIf.strong (v := .int .i64 (r : Int)) (by rfl) (by kernel_rfl) (by rfl) (fun Z hT hS => ?_) ?_
    · have z2 := keepC hS z2; have c5 := keepC hS c5; have x1 := keepC hS x1
      go_simp
    simp only [Act.put, List.setIfInBounds_toArray, List.set_cons_zero, List.set_cons_succ, List.getElem_toArray, List.getElem_cons_zero, List.getElem_cons_succ]
    refine RG.RunsIf.weak (v := ?_) (by rfl) (by rfl) (fun Z hT => ?_) ?_
    rotate_left
    · go_simp
      rfl
    simp only [Act.put, List.setIfInBounds_toArray, List.set_cons_zero, List.set_cons_succ, List.getElem_toArray, List.getElem_cons_zero, List.getElem_cons_succ]
    refine RG.RunsIf.weak (v := ?_) (by rfl) (by rfl) (fun Z hT => ?_) ?_
    rotate_left
    · go_simp
      rfl
    simp only [Act.put, List.setIfInBounds_toArray, List.set_cons_zero, List.set_cons_succ, List.getElem_toArray, List.getElem_cons_zero, List.getElem_cons_succ]
    refine RG.RunsIf.weak (v := ?_) (by rfl) (by rfl) (fun Z hT => ?_) ?_
    rotate_left
    · go_simp
      rfl
    simp only [Act.put, List.setIfInBounds_toArray, List.set_cons_zero, List.set_cons_succ, List.getElem_toArray, List.getElem_cons_zero, List.getElem_cons_succ]
    refine RG.RunsIf.strong (v := .int .i64 v) (by rfl) (by kernel_rfl) (by rfl) (fun Z hT hS => ?_) ?_
    · have z2 := keepC hS z2; have c5 := keepC hS c5; have x1 := keepC hS x1
      go_simp
    simp only [Act.put, List.setIfInBounds_toArray, List.set_cons_zero, List.set_cons_succ, List.getElem_toArray, List.getElem_cons_zero, List.getElem_cons_succ]
    refine RG.RunsIf.weak (v := ?_) (by rfl) (by rfl) (fun Z hT => ?_) ?_
    rotate_left
    · go_simp
      rfl
    simp only [Act.put, List.setIfInBounds_toArray, List.set_cons_zero, List.set_cons_succ, List.getElem_toArray, List.getElem_cons_zero, List.getElem_cons_succ]
    refine RG.RunsIf.weak (v := ?_) (by rfl) (by rfl) (fun Z hT => ?_) ?_
    rotate_left
    · go_simp
      rfl
    simp only [Act.put, List.setIfInBounds_toArray, List.set_cons_zero, List.set_cons_succ, List.getElem_toArray, List.getElem_cons_zero, List.getElem_cons_succ]
    exact RG.RunsIf.nil
  have HMa := TW.hide (HMV.out.below HBa.out)
  have HEa := TW.hide (HEV.out.below HBa.out)
  have HIa := TW.hide (blk_keep HI.out HBa.out)
  clear HI HMV HEV HBa
  have fz := HEa.out.froz 3
  have cz := HEa.out.cells.2.2.2.1
  have HMz : Hid (WM o (Ya.setCell ⟨ge, 3, none⟩ (.int .i64 v)) g s pa pc ra rc t m) := HMa.out.setE HEa.out HB.out HN.out 3 _
  have HEz : Hid (EvB (Ya.setCell ⟨ge, 3, none⟩ (.int .i64 v)) ge ⟨k, 15, a0, v, false⟩) := HEa.out.setV v
  refine RG.wpL_late (i := 14) (by kernel_rfl) (by rfl) (by rfl) (by kernel_rfl) (fun KX hK => ?_)
  have HK := TW.hide hK
  clear hK
  go_simp
  refine HK.out _ _ trivial ?_
  clear HK KX cz fz
  refine RG.wpL_done (by kernel_rfl) ?_ _
  refine NoPanic.normal ?_
  go_wp2
  rw [← HP.out]
  exact ⟨rfl, m, HMz.out, HEz.out, rfl, rfl, rfl⟩
end LW
end Go.Proofs.Ytghpfhoajcgghaa
