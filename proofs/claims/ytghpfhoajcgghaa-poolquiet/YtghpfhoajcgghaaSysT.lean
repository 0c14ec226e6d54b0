/-
  What channels of the document's machine does: take, close.
-/
import Derived.Test.YtghpfhoajcgghaaSysN
namespace Go.Proofs.Ytghpfhoajcgghaa
open Go.RowKit
set_option linter.unusedVariables false
set_option linter.unusedSimpArgs false
namespace LW
open Mc
theorem rn_at {o W : World} {g : Nat} {s : Syst} {pa : Option Addr} {pc : Nat} {ra : Option Addr} {rc : Nat} {t : St} {m : WV} (h : WM o W g s pa pc ra rc t m) {k b n cap : Nat} (hk : k < t.rns.length) (e5 : m.rv = .slice (some ⟨b, 0, none⟩) n cap) : (∀ i, W.frozen? ⟨b, i, none⟩ = false) ∧ ∀ j, j < 11 → W.cell? ⟨b, k * 11 + j, none⟩ = some (rnV (Mc.rn t k) j) := by
  obtain ⟨b', cp, e, _, hf, _, hr⟩ := h.rn1 k hk
  rw [e5] at e
  injection e with e1
  injection e1 with e1
  injection e1 with e1
  subst e1
  exact ⟨hf, hr⟩
theorem sh1_at {o W : World} {g : Nat} {s : Syst} {pa : Option Addr} {pc : Nat} {ra : Option Addr} {rc : Nat} {t : St} {m : WV} (h : WM o W g s pa pc ra rc t m) {c hb cap : Nat} (hc : c < t.shut.length) (e6 : m.sv = .slice (some ⟨hb, 0, none⟩) t.shut.length cap) : W.frozen? ⟨hb, c, none⟩ = false ∧ W.cell? ⟨hb, c, none⟩ = some (.bool (t.shut.getD c false)) := by
  obtain ⟨b, cp, e, _, hf, hr⟩ := h.sh1 c hc
  rw [e6] at e
  injection e with e1
  injection e1 with e1
  injection e1 with e1
  subst e1
  exact ⟨hf, hr⟩
theorem ge_rb {o W : World} {g : Nat} {s : Syst} {pa : Option Addr} {pc : Nat} {ra : Option Addr} {rc : Nat} {t : St} {m : WV} (h : WM o W g s pa pc ra rc t m) {k b n cap ge : Nat} {e : Ev} (hk : k < t.rns.length) (e5 : m.rv = .slice (some ⟨b, 0, none⟩) n cap) (hE : EvB W ge e) : b ≠ ge := by
  obtain ⟨b', cp, e', _, _, ⟨cur, hh⟩, _⟩ := h.rn1 k hk
  rw [e5] at e'
  injection e' with e1
  injection e1 with e1
  injection e1 with e1
  subst e1
  rintro rfl
  have := hh.symm.trans hE
  simp at this
set_option maxRecDepth 100000 in
set_option maxHeartbeats 4000000 in
theorem rtakeE {o : World} {g : Nat} {s : Syst} {pa : Option Addr} {pc : Nat} {ra : Option Addr} {rc : Nat} {t : St} {m : WV} (k c r : Nat) (a2 : Int) (ge : Nat) (w : World) (h : WM o w g s pa pc ra rc t m) (hk : k < t.rns.length) (hc : c < t.held.length) (hr : r < 8) (ha : 0 ≤ a2 ∧ a2 ≤ 256) (he : t.held.getD c [] = []) (hE : EvB w ge ⟨k, 6, c, 0, false⟩) (hB : o.heap.size ≤ ge) (hn : m.ev.ownBlock ≠ some ge) :
    Calls Try.prog 38 #[.pointer (some ⟨g, 0, none⟩), .int .i64 k, .agg #[.int .i64 6, .int .i64 (c : Int), .int .i64 (r : Int), .int .i64 a2], .pointer (some ⟨ge, 0, none⟩)] w (ChP o g s pa pc ra rc m ge k 6 (⟨c, 0, true, 0, { t with rns := setP t k (a2 - 1) }⟩)) := by
  have HM := TW.hide h
  have HE := TW.hide hE
  have HB := TW.hide hB
  have HN := TW.hide hn
  clear h hE hB hn
  generalize hP : ChP o g s pa pc ra rc m ge k _ _ = POST
  have HP := TW.hide hP
  clear hP
  have hA0 : Below w.heap.size w (w.alloc (.cells #[.int .i64 6, .int .i64 (c : Int), .int .i64 (r : Int), .int .i64 a2] 53)) := (Below.refl _ _).alloc (Nat.le_refl _) _
  have NI0 : (w.alloc (.cells #[.int .i64 6, .int .i64 (c : Int), .int .i64 (r : Int), .int .i64 a2] 53)).heap[w.heap.size]? = some (.cells #[.int .i64 6, .int .i64 (c : Int), .int .i64 (r : Int), .int .i64 a2] 53 (0, 0)) := heap_alloc_new w _
  go_enter Try.func38, Try.ntmps38
  refine wp_seq_k fun K hK => ?_
  have HK := TW.hide hK
  clear hK
  go_wp2
  refine HK.out _ _ ?_
  clear HK K
  have HMV := TW.hide (HM.out.below hA0)
  have HEV := TW.hide (HE.out.below hA0)
  have HI := TW.hide NI0
  clear hA0 NI0 HM HE
  generalize (w.alloc (.cells #[.int .i64 6, .int .i64 (c : Int), .int .i64 (r : Int), .int .i64 a2] 53)) = V at *
  generalize w.heap.size = gi at *
  obtain ⟨z0, z1, z2, z3⟩ := cellsY4 HI.out
  obtain ⟨rb, rcap, e5, hrbB, x1⟩ := HMV.out.reg1 k hk r hr
  have c5 := HMV.out.c5
  rw [e5] at c5
  have k1 : (k : Int) < (t.rns.length : Int) := by omega
  have k0 : (0 : Int) ≤ (k : Int) := by omega
  have r1 : (r : Int) < 8 := by omega
  have r0 : (0 : Int) ≤ (r : Int) := by omega
  generalize hnn : t.rns.length = n at e5 c5 k1
  generalize reg t k (r : Int) = v at x1
  refine wp_seq_k fun K hK => ?_
  have HK := TW.hide hK
  clear hK
  go_wp2
  go_quiet (fail)
  refine HK.out _ _ ?_
  clear HK
  replace HI := TW.hide (blk_keep HI.out (below_drewN (Below.refl V.heap.size V) nq))
  have HMX := TW.hide (HMV.out.below (below_drewN (Below.refl V.heap.size V) nq))
  have HEX := TW.hide (HEV.out.below (below_drewN (Below.refl V.heap.size V) nq))
  clear HMV HEV
  generalize V.drewN nq = X at *
  clear z0 z1 z2 z3
  obtain ⟨z0, z1, z2, z3⟩ := cellsY4 HI.out
  clear c5 x1
  obtain ⟨d0, d1, d2, d3, d4⟩ := HEX.out.cells
  have fz := HEX.out.froz 4
  obtain ⟨hb, hcap, e6, hbB, _, x3⟩ := HMX.out.hd1 c hc
  obtain ⟨qa, qm, qc, e8, ql⟩ : ∃ qa qm qc, qn m.qs c = .slice qa qm qc ∧ qm = 0 := by
    have := HMX.out.qus c hc
    rw [he] at this
    rcases this with ⟨e, _⟩ | ⟨b, off, cap, cur, e, _⟩
    · exact ⟨_, _, _, e, rfl⟩
    · exact ⟨_, _, _, e, rfl⟩
  subst ql
  have c6 := HMX.out.c6
  rw [e6] at c6
  rw [e8] at x3
  have p1 : (c : Int) < (t.held.length : Int) := by omega
  have p0 : (0 : Int) ≤ (c : Int) := by omega
  go_wp2
  go_quiet (fail)
  replace HI := TW.hide (blk_keep HI.out (below_drewN (Below.refl X.heap.size X) nq))
  have HMY := TW.hide (HMX.out.below (below_drewN (Below.refl X.heap.size X) nq))
  have HEY := TW.hide (HEX.out.below (below_drewN (Below.refl X.heap.size X) nq))
  clear HMX HEX
  generalize X.drewN nq = Y at *
  clear z0 z1 z2 z3
  obtain ⟨z0, z1, z2, z3⟩ := cellsY4 HI.out
  clear d0 d1 d2 d3 d4 fz
  obtain ⟨d0, d1, d2, d3, d4⟩ := HEY.out.cells
  have fz := HEY.out.froz 4
  have HMA : Hid (WM o (Y.setCell ⟨ge, 4, none⟩ (.bool true)) g s pa pc ra rc t m) := HMY.out.setE HEY.out HB.out HN.out 4 _
  have HEA : Hid (EvB (Y.setCell ⟨ge, 4, none⟩ (.bool true)) ge ⟨k, 6, c, 0, true⟩) := HEY.out.setS true
  have HIA : Hid ((Y.setCell ⟨ge, 4, none⟩ (.bool true)).heap[gi]? = some (.cells #[.int .i64 6, .int .i64 (c : Int), .int .i64 (r : Int), .int .i64 a2] 53 (0, 0))) := blk_setN HI.out HEY.out (by decide)
  go_wp2
  clear d0 d1 d2 d3 d4 fz HEY HMY HI z0 z1 z2 z3 c6 x3
  generalize Y.setCell _ _ = A at *
  have HI := HIA
  clear HIA
  obtain ⟨z0, z1, z2, z3⟩ := cellsY4 HI.out
  have c5 := HMA.out.c5
  rw [e5] at c5
  have kw : IntKind.i64.wrap (a2 - 1) = a2 - 1 := by simp [IntKind.wrap, IntKind.bits, IntKind.signed]; omega
  refine wp_region_noPanic ?_
  refine RG.wp_region_L (fun Z => Below A.heap.size A Z) (fun Z => True) [10] (by kernel_rfl) ?_
  refine RG.wpL_any fun Ya hY => ?_
  have HBa : Hid (Below A.heap.size A Ya) := by rw [hY]; exact below_drewN (Below.refl _ _) 1
  clear hY
  refine RG.wpL_take (fuel := 1) (a' := ?Aa) [0, 1, 2, 3, 4, 5, 6, 7, 8, 9] (by kernel_rfl) (by kernel_rfl) (fun _ _ _ _ _ h => h) trivial (fun _ => HBa.out) ?ra ?_
  case ra =>
    refine RG.RunsIf.weak (v := ?_) (by rfl) (by rfl) (fun Z hT => ?_) ?_
    rotate_left
    · go_simp
      rfl
    simp only [Act.put, List.setIfInBounds_toArray, List.set_cons_zero, List.set_cons_succ, List.getElem_toArray, List.getElem_cons_zero, List.getElem_cons_succ]
    refine RG.RunsIf.weak (v := ?_) (by rfl) (by rfl) (fun Z hT => ?_) ?_
    rotate_left
    · go_simp
      rfl
    simp only [Act.put, List.setIfInBounds_toArray, List.set_cons_zero, List.set_cons_succ, List.getElem_toArray, List.getElem_cons_zero, List.getElem_cons_succ]
    refine RG.RunsIf.weak (v := ?_) (by rfl) (by rfl) (fun Z hT => ?_) ?_
    rotate_left
    · go_simp
      rfl
    simp only [Act.put, List.setIfInBounds_toArray, List.set_cons_zero, List.set_cons_succ, List.getElem_toArray, List.getElem_cons_zero, List.getElem_cons_succ]
    refine RG.RunsIf.strong (v := .slice (some ⟨rb, 0, none⟩) n rcap) (by rfl) (by kernel_rfl) (by rfl) (fun Z hT hS => ?_) ?_
    · have z3 := keepC hS z3; have c5 := keepC hS c5
      go_simp
    simp only [Act.put, List.setIfInBounds_toArray, List.set_cons_zero, List.set_cons_succ, List.getElem_toArray, List.getElem_cons_zero, List.getElem_cons_succ]
    refine RG.RunsIf.weak (v := ?_) (by rfl) (by rfl) (fun Z hT => ?_) ?_
    rotate_left
    · go_simp
      rfl
    simp only [Act.put, List.setIfInBounds_toArray, List.set_cons_zero, List.set_cons_succ, List.getElem_toArray, List.getElem_cons_zero, List.getElem_cons_succ]
    refine RG.RunsIf.weak (v := ?_) (by rfl) (by rfl) (fun Z hT => ?_) ?_
    rotate_left
    · go_simp
      rfl
    simp only [Act.put, List.setIfInBounds_toArray, List.set_cons_zero, List.set_cons_succ, List.getElem_toArray, List.getElem_cons_zero, List.getElem_cons_succ]
    refine RG.RunsIf.strong (v := .int .i64 a2) (by rfl) (by kernel_rfl) (by rfl) (fun Z hT hS => ?_) ?_
    · have z3 := keepC hS z3; have c5 := keepC hS c5
      go_simp
    simp only [Act.put, List.setIfInBounds_toArray, List.set_cons_zero, List.set_cons_succ, List.getElem_toArray, List.getElem_cons_zero, List.getElem_cons_succ]
    refine RG.RunsIf.strong (v := .int .i64 (a2 - 1)) (by rfl) (by kernel_rfl) (by rfl) (fun Z hT hS => ?_) ?_
    · have z3 := keepC hS z3; have c5 := keepC hS c5
      go_simp
    simp only [Act.put, List.setIfInBounds_toArray, List.set_cons_zero, List.set_cons_succ, List.getElem_toArray, List.getElem_cons_zero, List.getElem_cons_succ]
    refine RG.RunsIf.weak (v := ?_) (by rfl) (by rfl) (fun Z hT => ?_) ?_
    rotate_left
    · go_simp
      rfl
    simp only [Act.put, List.setIfInBounds_toArray, List.set_cons_zero, List.set_cons_succ, List.getElem_toArray, List.getElem_cons_zero, List.getElem_cons_succ]
    refine RG.RunsIf.weak (v := ?_) (by rfl) (by rfl) (fun Z hT => ?_) ?_
    rotate_left
    · go_simp
      rfl
    simp only [Act.put, List.setIfInBounds_toArray, List.set_cons_zero, List.set_cons_succ, List.getElem_toArray, List.getElem_cons_zero, List.getElem_cons_succ]
    exact RG.RunsIf.nil
  have HMa := TW.hide (HMA.out.below HBa.out)
  have HEa := TW.hide (HEA.out.below HBa.out)
  have HIa := TW.hide (blk_keep HI.out HBa.out)
  clear HI HMA HEA HBa
  have hnr := ge_rb HMa.out hk e5 HEa.out
  obtain ⟨fz', cz'⟩ := rn_at HMa.out hk e5
  have fz := fz' (k * 11 + 1)
  have cz := cz' 1 (by omega)
  clear fz' cz'
  have HMz := TW.hide (HMa.out.setRn (by rw [e5, hnn]) (by omega) _ _ _ (rnC_setP t k (a2 - 1) hk) (by simp [setP]))
  have HEz : Hid (EvB (Ya.setCell ⟨rb, k * 11 + 1, none⟩ (.int .i64 (a2 - 1))) ge ⟨k, 6, c, 0, true⟩) := HEa.out.setB hnr
  refine RG.wpL_late (i := 10) (by kernel_rfl) (by rfl) (by rfl) (by kernel_rfl) (fun KX hK => ?_)
  have HK := TW.hide hK
  clear hK
  go_simp
  refine HK.out _ _ trivial ?_
  clear HK KX cz fz
  refine RG.wpL_done (by kernel_rfl) ?_ _
  refine NoPanic.normal ?_
  go_wp2
  rw [← HP.out]
  exact ⟨rfl, m, HMz.out, HEz.out, rfl, rfl, rfl⟩
set_option maxRecDepth 100000 in
set_option maxHeartbeats 4000000 in
theorem rtake {o : World} {g : Nat} {s : Syst} {pa : Option Addr} {pc : Nat} {ra : Option Addr} {rc : Nat} {t : St} {m : WV} (k c r : Nat) (a2 : Int) (ge : Nat) (w : World) (h : WM o w g s pa pc ra rc t m) (hk : k < t.rns.length) (hc : c < t.held.length) (hr : r < 8) (h8 : (Mc.rn t k).regs.length = 8) (he : 0 < (t.held.getD c []).length) (hE : EvB w ge ⟨k, 6, c, 0, false⟩) (hB : o.heap.size ≤ ge) (hn : m.ev.ownBlock ≠ some ge) :
    Calls Try.prog 38 #[.pointer (some ⟨g, 0, none⟩), .int .i64 k, .agg #[.int .i64 6, .int .i64 (c : Int), .int .i64 (r : Int), .int .i64 a2], .pointer (some ⟨ge, 0, none⟩)] w (ChP o g s pa pc ra rc m ge k 6 (⟨c, (t.held.getD c []).getD 0 0, false, 0, { t with held := t.held.set c (t.held.getD c []).tail, rns := setR t k (r : Int) ((t.held.getD c []).getD 0 0) }⟩)) := by
  have HM := TW.hide h
  have HE := TW.hide hE
  have HB := TW.hide hB
  have HN := TW.hide hn
  clear h hE hB hn
  generalize hP : ChP o g s pa pc ra rc m ge k _ _ = POST
  have HP := TW.hide hP
  clear hP
  have hA0 : Below w.heap.size w (w.alloc (.cells #[.int .i64 6, .int .i64 (c : Int), .int .i64 (r : Int), .int .i64 a2] 53)) := (Below.refl _ _).alloc (Nat.le_refl _) _
  have NI0 : (w.alloc (.cells #[.int .i64 6, .int .i64 (c : Int), .int .i64 (r : Int), .int .i64 a2] 53)).heap[w.heap.size]? = some (.cells #[.int .i64 6, .int .i64 (c : Int), .int .i64 (r : Int), .int .i64 a2] 53 (0, 0)) := heap_alloc_new w _
  go_enter Try.func38, Try.ntmps38
  refine wp_seq_k fun K hK => ?_
  have HK := TW.hide hK
  clear hK
  go_wp2
  refine HK.out _ _ ?_
  clear HK K
  have HMV := TW.hide (HM.out.below hA0)
  have HEV := TW.hide (HE.out.below hA0)
  have HI := TW.hide NI0
  clear hA0 NI0 HM HE
  generalize (w.alloc (.cells #[.int .i64 6, .int .i64 (c : Int), .int .i64 (r : Int), .int .i64 a2] 53)) = V at *
  generalize w.heap.size = gi at *
  obtain ⟨z0, z1, z2, z3⟩ := cellsY4 HI.out
  obtain ⟨rb, rcap, e5, hrbB, x1⟩ := HMV.out.reg1 k hk r hr
  have c5 := HMV.out.c5
  rw [e5] at c5
  have k1 : (k : Int) < (t.rns.length : Int) := by omega
  have k0 : (0 : Int) ≤ (k : Int) := by omega
  have r1 : (r : Int) < 8 := by omega
  have r0 : (0 : Int) ≤ (r : Int) := by omega
  generalize hnn : t.rns.length = n at e5 c5 k1
  generalize reg t k (r : Int) = v at x1
  refine wp_seq_k fun K hK => ?_
  have HK := TW.hide hK
  clear hK
  go_wp2
  go_quiet (fail)
  refine HK.out _ _ ?_
  clear HK
  replace HI := TW.hide (blk_keep HI.out (below_drewN (Below.refl V.heap.size V) nq))
  have HMX := TW.hide (HMV.out.below (below_drewN (Below.refl V.heap.size V) nq))
  have HEX := TW.hide (HEV.out.below (below_drewN (Below.refl V.heap.size V) nq))
  clear HMV HEV
  generalize V.drewN nq = X at *
  clear z0 z1 z2 z3
  obtain ⟨z0, z1, z2, z3⟩ := cellsY4 HI.out
  clear c5 x1
  obtain ⟨hb, hcap, e6, hbB, _, x3⟩ := HMX.out.hd1 c hc
  obtain ⟨qb, qo, qc, e8, hql, xq⟩ := (HMX.out.qus c hc).cell he
  have HTl : Hid (∀ W, WM o W g s pa pc ra rc t m → Qu W (.slice (if qc = 1 then some ⟨qb, qo, none⟩ else some ⟨qb, qo + 1, none⟩) ((t.held.getD c []).length - 1) (qc - 1)) (t.held.getD c []).tail) := fun W hW => Qu.tail (by rw [← e8]; exact hW.qus c hc) he
  have c6 := HMX.out.c6
  rw [e6] at c6
  rw [e8] at x3
  have HXQ : Hid (∀ W, WM o W g s pa pc ra rc t m → W.cell? ⟨qb, qo, none⟩ = some (.int .i64 ((t.held.getD c []).getD 0 0))) := fun W hW => by
    obtain ⟨b1, o1, c1, f1, _, f2⟩ := (hW.qus c hc).cell he
    rw [e8] at f1
    injection f1 with f1
    injection f1 with f1
    injection f1 with f1 f3
    subst f1 f3
    exact f2
  clear xq
  generalize (t.held.getD c []).getD 0 0 = v0 at *
  generalize (t.held.getD c []).length = ql at *
  have kq : ((ql : Int) == 0) = false := by simp; omega
  have qp : (0 : Int) < (ql : Int) := by omega
  have p1 : (c : Int) < (t.held.length : Int) := by omega
  have p0 : (0 : Int) ≤ (c : Int) := by omega
  have hqI : (1 : Int) ≤ (ql : Int) := by omega
  have hqJ : (ql : Int) ≤ (qc : Int) := by omega
  go_wp2
  go_quiet (fail)
  replace HI := TW.hide (blk_keep HI.out (below_drewN (Below.refl X.heap.size X) nq))
  have HMY := TW.hide (HMX.out.below (below_drewN (Below.refl X.heap.size X) nq))
  have HEY := TW.hide (HEX.out.below (below_drewN (Below.refl X.heap.size X) nq))
  clear HMX HEX
  generalize X.drewN nq = Y at *
  clear z0 z1 z2 z3
  obtain ⟨z0, z1, z2, z3⟩ := cellsY4 HI.out
  go_wp2
  clear c6 x3
  have c6 := HMY.out.c6
  rw [e6] at c6
  have x3 := (hd1_at HMY.out hc e6).2
  rw [e8] at x3
  have xq : Y.cell? ⟨qb, qo, none⟩ = some (.int .i64 v0) := HXQ.out _ HMY.out
  refine wp_region_noPanic ?_
  refine RG.wp_region_L (fun Z => Below Y.heap.size Y Z) (fun Z => True) [13] (by kernel_rfl) ?_
  refine RG.wpL_any fun Ya hY => ?_
  have HBa : Hid (Below Y.heap.size Y Ya) := by rw [hY]; exact below_drewN (Below.refl _ _) 1
  clear hY
  refine RG.wpL_take (fuel := 1) (a' := ?Aa) [0, 1, 2, 3, 4, 5, 6, 7, 8, 9, 10, 11, 12] (by kernel_rfl) (by kernel_rfl) (fun _ _ _ _ _ h => h) trivial (fun _ => HBa.out) ?ra ?_
  case ra =>
    refine RG.RunsIf.weak (v := ?_) (by rfl) (by rfl) (fun Z hT => ?_) ?_
    rotate_left
    · go_simp
      rfl
    simp only [Act.put, List.setIfInBounds_toArray, List.set_cons_zero, List.set_cons_succ, List.getElem_toArray, List.getElem_cons_zero, List.getElem_cons_succ]
    refine RG.RunsIf.weak (v := ?_) (by rfl) (by rfl) (fun Z hT => ?_) ?_
    rotate_left
    · go_simp
      rfl
    simp only [Act.put, List.setIfInBounds_toArray, List.set_cons_zero, List.set_cons_succ, List.getElem_toArray, List.getElem_cons_zero, List.getElem_cons_succ]
    refine RG.RunsIf.weak (v := ?_) (by rfl) (by rfl) (fun Z hT => ?_) ?_
    rotate_left
    · go_simp
      rfl
    simp only [Act.put, List.setIfInBounds_toArray, List.set_cons_zero, List.set_cons_succ, List.getElem_toArray, List.getElem_cons_zero, List.getElem_cons_succ]
    refine RG.RunsIf.weak (v := ?_) (by rfl) (by rfl) (fun Z hT => ?_) ?_
    rotate_left
    · go_simp
      rfl
    simp only [Act.put, List.setIfInBounds_toArray, List.set_cons_zero, List.set_cons_succ, List.getElem_toArray, List.getElem_cons_zero, List.getElem_cons_succ]
    refine RG.RunsIf.strong (v := .slice (some ⟨hb, 0, none⟩) t.held.length hcap) (by rfl) (by kernel_rfl) (by rfl) (fun Z hT hS => ?_) ?_
    · have z1 := keepC hS z1; have c6 := keepC hS c6; have x3 := keepC hS x3; have xq := keepC hS xq
      go_simp
    simp only [Act.put, List.setIfInBounds_toArray, List.set_cons_zero, List.set_cons_succ, List.getElem_toArray, List.getElem_cons_zero, List.getElem_cons_succ]
    refine RG.RunsIf.weak (v := ?_) (by rfl) (by rfl) (fun Z hT => ?_) ?_
    rotate_left
    · go_simp
      rfl
    simp only [Act.put, List.setIfInBounds_toArray, List.set_cons_zero, List.set_cons_succ, List.getElem_toArray, List.getElem_cons_zero, List.getElem_cons_succ]
    refine RG.RunsIf.strong (v := .int .i64 (c : Int)) (by rfl) (by kernel_rfl) (by rfl) (fun Z hT hS => ?_) ?_
    · have z1 := keepC hS z1; have c6 := keepC hS c6; have x3 := keepC hS x3; have xq := keepC hS xq
      go_simp
    simp only [Act.put, List.setIfInBounds_toArray, List.set_cons_zero, List.set_cons_succ, List.getElem_toArray, List.getElem_cons_zero, List.getElem_cons_succ]
    refine RG.RunsIf.weak (v := ?_) (by rfl) (by rfl) (fun Z hT => ?_) ?_
    rotate_left
    · go_simp
      rfl
    simp only [Act.put, List.setIfInBounds_toArray, List.set_cons_zero, List.set_cons_succ, List.getElem_toArray, List.getElem_cons_zero, List.getElem_cons_succ]
    refine RG.RunsIf.strong (v := .slice (some ⟨qb, qo, none⟩) ql qc) (by rfl) (by kernel_rfl) (by rfl) (fun Z hT hS => ?_) ?_
    · have z1 := keepC hS z1; have c6 := keepC hS c6; have x3 := keepC hS x3; have xq := keepC hS xq
      go_simp
    simp only [Act.put, List.setIfInBounds_toArray, List.set_cons_zero, List.set_cons_succ, List.getElem_toArray, List.getElem_cons_zero, List.getElem_cons_succ]
    refine RG.RunsIf.weak (v := ?_) (by rfl) (by rfl) (fun Z hT => ?_) ?_
    rotate_left
    · go_simp
      rfl
    simp only [Act.put, List.setIfInBounds_toArray, List.set_cons_zero, List.set_cons_succ, List.getElem_toArray, List.getElem_cons_zero, List.getElem_cons_succ]
    refine RG.RunsIf.strong (v := .int .i64 v0) (by rfl) (by kernel_rfl) (by rfl) (fun Z hT hS => ?_) ?_
    · have z1 := keepC hS z1; have c6 := keepC hS c6; have x3 := keepC hS x3; have xq := keepC hS xq
      go_simp
    simp only [Act.put, List.setIfInBounds_toArray, List.set_cons_zero, List.set_cons_succ, List.getElem_toArray, List.getElem_cons_zero, List.getElem_cons_succ]
    refine RG.RunsIf.weak (v := ?_) (by rfl) (by rfl) (fun Z hT => ?_) ?_
    rotate_left
    · go_simp
      rfl
    simp only [Act.put, List.setIfInBounds_toArray, List.set_cons_zero, List.set_cons_succ, List.getElem_toArray, List.getElem_cons_zero, List.getElem_cons_succ]
    refine RG.RunsIf.weak (v := ?_) (by rfl) (by rfl) (fun Z hT => ?_) ?_
    rotate_left
    · go_simp
      rfl
    simp only [Act.put, List.setIfInBounds_toArray, List.set_cons_zero, List.set_cons_succ, List.getElem_toArray, List.getElem_cons_zero, List.getElem_cons_succ]
    exact RG.RunsIf.nil
  have HMa := TW.hide (HMY.out.below HBa.out)
  have HEa := TW.hide (HEY.out.below HBa.out)
  have HIa := TW.hide (blk_keep HI.out HBa.out)
  clear HI HMY HEY HBa
  have fz := HEa.out.froz 3
  have cz := HEa.out.cells.2.2.2.1
  have HMB : Hid (WM o (Ya.setCell ⟨ge, 3, none⟩ (.int .i64 v0)) g s pa pc ra rc t m) := HMa.out.setE HEa.out HB.out HN.out 3 _
  have HEB : Hid (EvB (Ya.setCell ⟨ge, 3, none⟩ (.int .i64 v0)) ge ⟨k, 6, c, v0, false⟩) := HEa.out.setV v0
  have HIB : Hid ((Ya.setCell ⟨ge, 3, none⟩ (.int .i64 v0)).heap[gi]? = some (.cells #[.int .i64 6, .int .i64 (c : Int), .int .i64 (r : Int), .int .i64 a2] 53 (0, 0))) := blk_setN HIa.out HEa.out (by decide)
  refine RG.wpL_late (i := 13) (by kernel_rfl) (by rfl) (by rfl) (by kernel_rfl) (fun KX hK => ?_)
  have HK := TW.hide hK
  clear hK
  go_simp
  refine HK.out _ _ trivial ?_
  clear HK KX cz fz
  refine RG.wpL_done (by kernel_rfl) ?_ _
  refine NoPanic.normal ?_
  clear HMa HEa HIa z0 z1 z2 z3 c6 x3 xq
  generalize Ya.setCell _ _ = B at *
  have HI := HIB
  clear HIB
  obtain ⟨z0, z1, z2, z3⟩ := cellsY4 HI.out
  have c6 := HMB.out.c6
  rw [e6] at c6
  have x3 := (hd1_at HMB.out hc e6).2
  rw [e8] at x3
  go_wp2
  refine wp_region_noPanic ?_
  refine RG.wp_region_L (fun Z => Below B.heap.size B Z) (fun Z => True) [16] (by kernel_rfl) ?_
  refine RG.wpL_any fun Yb hY => ?_
  have HBb : Hid (Below B.heap.size B Yb) := by rw [hY]; exact below_drewN (Below.refl _ _) 1
  clear hY
  refine RG.wpL_take (fuel := 1) (a' := ?Ab) [0, 1, 2, 3, 4, 5, 6, 7, 8, 9, 10, 11, 12, 13, 14, 15] (by kernel_rfl) (by kernel_rfl) (fun _ _ _ _ _ h => h) trivial (fun _ => HBb.out) ?rb ?_
  case rb =>
    refine RG.RunsIf.weak (v := ?_) (by rfl) (by rfl) (fun Z hT => ?_) ?_
    rotate_left
    · go_simp
      rfl
    simp only [Act.put, List.setIfInBounds_toArray, List.set_cons_zero, List.set_cons_succ, List.getElem_toArray, List.getElem_cons_zero, List.getElem_cons_succ]
    refine RG.RunsIf.weak (v := ?_) (by rfl) (by rfl) (fun Z hT => ?_) ?_
    rotate_left
    · go_simp
      rfl
    simp only [Act.put, List.setIfInBounds_toArray, List.set_cons_zero, List.set_cons_succ, List.getElem_toArray, List.getElem_cons_zero, List.getElem_cons_succ]
    refine RG.RunsIf.weak (v := ?_) (by rfl) (by rfl) (fun Z hT => ?_) ?_
    rotate_left
    · go_simp
      rfl
    simp only [Act.put, List.setIfInBounds_toArray, List.set_cons_zero, List.set_cons_succ, List.getElem_toArray, List.getElem_cons_zero, List.getElem_cons_succ]
    refine RG.RunsIf.strong (v := .slice (some ⟨hb, 0, none⟩) t.held.length hcap) (by rfl) (by kernel_rfl) (by rfl) (fun Z hT hS => ?_) ?_
    · have z1 := keepC hS z1; have c6 := keepC hS c6; have x3 := keepC hS x3
      go_simp
    simp only [Act.put, List.setIfInBounds_toArray, List.set_cons_zero, List.set_cons_succ, List.getElem_toArray, List.getElem_cons_zero, List.getElem_cons_succ]
    refine RG.RunsIf.weak (v := ?_) (by rfl) (by rfl) (fun Z hT => ?_) ?_
    rotate_left
    · go_simp
      rfl
    simp only [Act.put, List.setIfInBounds_toArray, List.set_cons_zero, List.set_cons_succ, List.getElem_toArray, List.getElem_cons_zero, List.getElem_cons_succ]
    refine RG.RunsIf.strong (v := .int .i64 (c : Int)) (by rfl) (by kernel_rfl) (by rfl) (fun Z hT hS => ?_) ?_
    · have z1 := keepC hS z1; have c6 := keepC hS c6; have x3 := keepC hS x3
      go_simp
    simp only [Act.put, List.setIfInBounds_toArray, List.set_cons_zero, List.set_cons_succ, List.getElem_toArray, List.getElem_cons_zero, List.getElem_cons_succ]
    refine RG.RunsIf.weak (v := ?_) (by rfl) (by rfl) (fun Z hT => ?_) ?_
    rotate_left
    · go_simp
      rfl
    simp only [Act.put, List.setIfInBounds_toArray, List.set_cons_zero, List.set_cons_succ, List.getElem_toArray, List.getElem_cons_zero, List.getElem_cons_succ]
    refine RG.RunsIf.weak (v := ?_) (by rfl) (by rfl) (fun Z hT => ?_) ?_
    rotate_left
    · go_simp
      rfl
    simp only [Act.put, List.setIfInBounds_toArray, List.set_cons_zero, List.set_cons_succ, List.getElem_toArray, List.getElem_cons_zero, List.getElem_cons_succ]
    refine RG.RunsIf.weak (v := ?_) (by rfl) (by rfl) (fun Z hT => ?_) ?_
    rotate_left
    · go_simp
      rfl
    simp only [Act.put, List.setIfInBounds_toArray, List.set_cons_zero, List.set_cons_succ, List.getElem_toArray, List.getElem_cons_zero, List.getElem_cons_succ]
    refine RG.RunsIf.strong (v := .slice (some ⟨hb, 0, none⟩) t.held.length hcap) (by rfl) (by kernel_rfl) (by rfl) (fun Z hT hS => ?_) ?_
    · have z1 := keepC hS z1; have c6 := keepC hS c6; have x3 := keepC hS x3
      go_simp
    simp only [Act.put, List.setIfInBounds_toArray, List.set_cons_zero, List.set_cons_succ, List.getElem_toArray, List.getElem_cons_zero, List.getElem_cons_succ]
    refine RG.RunsIf.weak (v := ?_) (by rfl) (by rfl) (fun Z hT => ?_) ?_
    rotate_left
    · go_simp
      rfl
    simp only [Act.put, List.setIfInBounds_toArray, List.set_cons_zero, List.set_cons_succ, List.getElem_toArray, List.getElem_cons_zero, List.getElem_cons_succ]
    refine RG.RunsIf.strong (v := .int .i64 (c : Int)) (by rfl) (by kernel_rfl) (by rfl) (fun Z hT hS => ?_) ?_
    · have z1 := keepC hS z1; have c6 := keepC hS c6; have x3 := keepC hS x3
      go_simp
    simp only [Act.put, List.setIfInBounds_toArray, List.set_cons_zero, List.set_cons_succ, List.getElem_toArray, List.getElem_cons_zero, List.getElem_cons_succ]
    refine RG.RunsIf.weak (v := ?_) (by rfl) (by rfl) (fun Z hT => ?_) ?_
    rotate_left
    · go_simp
      rfl
    simp only [Act.put, List.setIfInBounds_toArray, List.set_cons_zero, List.set_cons_succ, List.getElem_toArray, List.getElem_cons_zero, List.getElem_cons_succ]
    refine RG.RunsIf.strong (v := .slice (some ⟨qb, qo, none⟩) ql qc) (by rfl) (by kernel_rfl) (by rfl) (fun Z hT hS => ?_) ?_
    · have z1 := keepC hS z1; have c6 := keepC hS c6; have x3 := keepC hS x3
      go_simp
    simp only [Act.put, List.setIfInBounds_toArray, List.set_cons_zero, List.set_cons_succ, List.getElem_toArray, List.getElem_cons_zero, List.getElem_cons_succ]
    refine RG.RunsIf.strong (v := .slice (if qc = 1 then some ⟨qb, qo, none⟩ else some ⟨qb, qo + 1, none⟩) (ql - 1) (qc - 1)) (by rfl) (by kernel_rfl) (by rfl) (fun Z hT hS => ?_) ?_
    · have z1 := keepC hS z1; have c6 := keepC hS c6; have x3 := keepC hS x3
      go_simp
    simp only [Act.put, List.setIfInBounds_toArray, List.set_cons_zero, List.set_cons_succ, List.getElem_toArray, List.getElem_cons_zero, List.getElem_cons_succ]
    refine RG.RunsIf.weak (v := ?_) (by rfl) (by rfl) (fun Z hT => ?_) ?_
    rotate_left
    · go_simp
      rfl
    simp only [Act.put, List.setIfInBounds_toArray, List.set_cons_zero, List.set_cons_succ, List.getElem_toArray, List.getElem_cons_zero, List.getElem_cons_succ]
    exact RG.RunsIf.nil
  have HMb := TW.hide (HMB.out.below HBb.out)
  have HEb := TW.hide (HEB.out.below HBb.out)
  have HIb := TW.hide (blk_keep HI.out HBb.out)
  clear HI HMB HEB HBb
  obtain ⟨fz, cz⟩ := hd1_at HMb.out hc e6
  rw [e8] at cz
  obtain ⟨_, hcur, hhb⟩ := row_is HMb.out.hld e6 (by omega)
  have hne : hb ≠ ge := by
    rintro rfl
    have := hhb.symm.trans HEb.out
    simp at this
  have HMC : Hid (WM o (Yb.setCell ⟨hb, c, none⟩ (.slice (if qc = 1 then some ⟨qb, qo, none⟩ else some ⟨qb, qo + 1, none⟩) (ql - 1) (qc - 1))) g s pa pc ra rc { t with held := t.held.set c (t.held.getD c []).tail } { m with qs := m.qs.set c (.slice (if qc = 1 then some ⟨qb, qo, none⟩ else some ⟨qb, qo + 1, none⟩) (ql - 1) (qc - 1)) }) := HMb.out.putQ e6 c hc _ _ (HTl.out _ HMb.out) (fun _ _ _ => rfl) (.inl (by rw [e8]; split <;> rfl)) HMb.out.bl
  have HEC : Hid (EvB (Yb.setCell ⟨hb, c, none⟩ (.slice (if qc = 1 then some ⟨qb, qo, none⟩ else some ⟨qb, qo + 1, none⟩) (ql - 1) (qc - 1))) ge ⟨k, 6, c, v0, false⟩) := HEb.out.setB hne
  have HIC : Hid ((Yb.setCell ⟨hb, c, none⟩ (.slice (if qc = 1 then some ⟨qb, qo, none⟩ else some ⟨qb, qo + 1, none⟩) (ql - 1) (qc - 1))).heap[gi]? = some (.cells #[.int .i64 6, .int .i64 (c : Int), .int .i64 (r : Int), .int .i64 a2] 53 (0, 0))) := blk_setN HIb.out hhb (by decide)
  clear hne hhb
  refine RG.wpL_late (i := 16) (by kernel_rfl) (by rfl) (by rfl) (by kernel_rfl) (fun KX hK => ?_)
  have HK := TW.hide hK
  clear hK
  go_simp
  refine HK.out _ _ trivial ?_
  clear HK KX cz fz
  refine RG.wpL_done (by kernel_rfl) ?_ _
  refine NoPanic.normal ?_
  clear HMb HEb HIb z0 z1 z2 z3 c6 x3
  generalize Yb.setCell _ _ = C at *
  clear HTl
  generalize (if qc = 1 then some (⟨qb, qo, none⟩ : Addr) else some ⟨qb, qo + 1, none⟩) = qa2 at *
  have HI := HIC
  clear HIC
  obtain ⟨z0, z1, z2, z3⟩ := cellsY4 HI.out
  go_wp2
  refine wp_region_noPanic ?_
  refine RG.wp_region_L (fun Z => True) (fun Z => Z.cell? ⟨gi, 2, none⟩ = some (.int .i64 (r : Int)) ∧ Z.cell? ⟨ge, 3, none⟩ = some (.int .i64 v0)) [] (by kernel_rfl) ?_
  refine RG.wpL_any fun Yc hY => ?_
  have HBc : Hid (Below C.heap.size C Yc) := by rw [hY]; exact below_drewN (Below.refl _ _) 1
  clear hY
  have HMc := TW.hide (HMC.out.below HBc.out)
  have HEc := TW.hide (HEC.out.below HBc.out)
  have HIc := TW.hide (blk_keep HI.out HBc.out)
  have HTT : Hid (Yc.cell? ⟨gi, 2, none⟩ = some (.int .i64 (r : Int)) ∧ Yc.cell? ⟨ge, 3, none⟩ = some (.int .i64 v0)) := ⟨(cellsY4 HIc.out).2.2.1, HEc.out.cells.2.2.2.1⟩
  clear HMC HEC HI HBc
  refine RG.wpL_take (fuel := 1) (a' := ?Ac) [0, 1, 2, 3, 4, 5, 6, 7] (by kernel_rfl) (by kernel_rfl) (fun _ _ _ _ _ h => h) HTT.out (fun _ => trivial) ?rc ?_
  case rc =>
    refine RG.RunsIf.weak (v := ?_) (by rfl) (by rfl) (fun Z hT => ?_) ?_
    rotate_left
    · go_simp
      rfl
    simp only [Act.put, List.setIfInBounds_toArray, List.set_cons_zero, List.set_cons_succ, List.getElem_toArray, List.getElem_cons_zero, List.getElem_cons_succ]
    refine RG.RunsIf.weak (v := ?_) (by rfl) (by rfl) (fun Z hT => ?_) ?_
    rotate_left
    · go_simp
      rfl
    simp only [Act.put, List.setIfInBounds_toArray, List.set_cons_zero, List.set_cons_succ, List.getElem_toArray, List.getElem_cons_zero, List.getElem_cons_succ]
    refine RG.RunsIf.weak (v := ?_) (by rfl) (by rfl) (fun Z hT => ?_) ?_
    rotate_left
    · go_simp
      rfl
    simp only [Act.put, List.setIfInBounds_toArray, List.set_cons_zero, List.set_cons_succ, List.getElem_toArray, List.getElem_cons_zero, List.getElem_cons_succ]
    refine RG.RunsIf.weak (v := .int .i64 (r : Int)) (by rfl) (by rfl) (fun Z hT => ?_) ?_
    · obtain ⟨g1, g2⟩ := hT
      go_simp
    simp only [Act.put, List.setIfInBounds_toArray, List.set_cons_zero, List.set_cons_succ, List.getElem_toArray, List.getElem_cons_zero, List.getElem_cons_succ]
    refine RG.RunsIf.weak (v := ?_) (by rfl) (by rfl) (fun Z hT => ?_) ?_
    rotate_left
    · go_simp
      rfl
    simp only [Act.put, List.setIfInBounds_toArray, List.set_cons_zero, List.set_cons_succ, List.getElem_toArray, List.getElem_cons_zero, List.getElem_cons_succ]
    refine RG.RunsIf.weak (v := ?_) (by rfl) (by rfl) (fun Z hT => ?_) ?_
    rotate_left
    · go_simp
      rfl
    simp only [Act.put, List.setIfInBounds_toArray, List.set_cons_zero, List.set_cons_succ, List.getElem_toArray, List.getElem_cons_zero, List.getElem_cons_succ]
    refine RG.RunsIf.weak (v := ?_) (by rfl) (by rfl) (fun Z hT => ?_) ?_
    rotate_left
    · go_simp
      rfl
    simp only [Act.put, List.setIfInBounds_toArray, List.set_cons_zero, List.set_cons_succ, List.getElem_toArray, List.getElem_cons_zero, List.getElem_cons_succ]
    refine RG.RunsIf.weak (v := .int .i64 v0) (by rfl) (by rfl) (fun Z hT => ?_) ?_
    · obtain ⟨g1, g2⟩ := hT
      go_simp
    simp only [Act.put, List.setIfInBounds_toArray, List.set_cons_zero, List.set_cons_succ, List.getElem_toArray, List.getElem_cons_zero, List.getElem_cons_succ]
    exact RG.RunsIf.nil
  refine RG.wpL_step (i := 8) (by kernel_rfl) (by rfl) (by rfl) (fun KX hK => ?_)
  have HK := TW.hide hK
  clear hK
  go_simp
  refine (rset k (r : Int) v0 _ HMc.out h8 hk (by omega)).mono ?_
  rintro e_ w_ ⟨rfl, hw, hoth⟩
  have hnr : rb ≠ ge := ge_rb HMc.out hk e5 HEc.out
  have hni : rb ≠ gi := by
    obtain ⟨b', cp, e', _, _, ⟨cur, hh⟩, _⟩ := HMc.out.rn1 k hk
    rw [show ({ m with qs := m.qs.set c (.slice qa2 (ql - 1) (qc - 1)) } : WV).rv = m.rv from rfl, e5] at e'
    injection e' with e1
    injection e1 with e1
    injection e1 with e1
    subst e1
    rintro rfl
    have := hh.symm.trans HIc.out
    simp at this
  have hge := hoth ge (by show m.rv.ownBlock ≠ _; rw [e5]; simpa [Value.ownBlock] using hnr)
  have hgi := hoth gi (by show m.rv.ownBlock ≠ _; rw [e5]; simpa [Value.ownBlock] using hni)
  have HMz := TW.hide hw
  have HEz := TW.hide (HEc.out.keep hge)
  refine HK.out _ _ ⟨by rw [cell_of hgi]; exact HTT.out.1, by rw [cell_of hge]; exact HTT.out.2⟩ (fun _ => trivial) ?_
  clear HK KX hw hoth hnr hni hge hgi HTT HMc HEc HIc
  refine RG.wpL_done (by kernel_rfl) ?_ _
  refine NoPanic.normal ?_
  go_wp2
  rw [← HP.out]
  exact ⟨rfl, _, HMz.out, HEz.out, rfl, rfl, rfl⟩
set_option maxRecDepth 100000 in
set_option maxHeartbeats 4000000 in
theorem rclose {o : World} {g : Nat} {s : Syst} {pa : Option Addr} {pc : Nat} {ra : Option Addr} {rc : Nat} {t : St} {m : WV} (k c r : Nat) (a2 : Int) (ge : Nat) (w : World) (h : WM o w g s pa pc ra rc t m) (hk : k < t.rns.length) (hc : c < t.shut.length) (hr : r < 8) (hE : EvB w ge ⟨k, 7, c, 0, false⟩) (hB : o.heap.size ≤ ge) (hn : m.ev.ownBlock ≠ some ge) :
    Calls Try.prog 38 #[.pointer (some ⟨g, 0, none⟩), .int .i64 k, .agg #[.int .i64 7, .int .i64 (c : Int), .int .i64 (r : Int), .int .i64 a2], .pointer (some ⟨ge, 0, none⟩)] w (ChP o g s pa pc ra rc m ge k 7 (if t.shut.getD c false then ⟨c, 0, false, 132, t⟩ else ⟨c, 0, false, 0, { t with shut := t.shut.set c true }⟩)) := by
  have HM := TW.hide h
  have HE := TW.hide hE
  have HB := TW.hide hB
  have HN := TW.hide hn
  clear h hE hB hn
  generalize hP : ChP o g s pa pc ra rc m ge k _ _ = POST
  have HP := TW.hide hP
  clear hP
  have hA0 : Below w.heap.size w (w.alloc (.cells #[.int .i64 7, .int .i64 (c : Int), .int .i64 (r : Int), .int .i64 a2] 53)) := (Below.refl _ _).alloc (Nat.le_refl _) _
  have NI0 : (w.alloc (.cells #[.int .i64 7, .int .i64 (c : Int), .int .i64 (r : Int), .int .i64 a2] 53)).heap[w.heap.size]? = some (.cells #[.int .i64 7, .int .i64 (c : Int), .int .i64 (r : Int), .int .i64 a2] 53 (0, 0)) := heap_alloc_new w _
  go_enter Try.func38, Try.ntmps38
  refine wp_seq_k fun K hK => ?_
  have HK := TW.hide hK
  clear hK
  go_wp2
  refine HK.out _ _ ?_
  clear HK K
  have HMV := TW.hide (HM.out.below hA0)
  have HEV := TW.hide (HE.out.below hA0)
  have HI := TW.hide NI0
  clear hA0 NI0 HM HE
  generalize (w.alloc (.cells #[.int .i64 7, .int .i64 (c : Int), .int .i64 (r : Int), .int .i64 a2] 53)) = V at *
  generalize w.heap.size = gi at *
  obtain ⟨z0, z1, z2, z3⟩ := cellsY4 HI.out
  obtain ⟨rb, rcap, e5, hrbB, x1⟩ := HMV.out.reg1 k hk r hr
  have c5 := HMV.out.c5
  rw [e5] at c5
  have k1 : (k : Int) < (t.rns.length : Int) := by omega
  have k0 : (0 : Int) ≤ (k : Int) := by omega
  have r1 : (r : Int) < 8 := by omega
  have r0 : (0 : Int) ≤ (r : Int) := by omega
  generalize hnn : t.rns.length = n at e5 c5 k1
  generalize reg t k (r : Int) = v at x1
  refine wp_seq_k fun K hK => ?_
  have HK := TW.hide hK
  clear hK
  go_wp2
  go_quiet (fail)
  refine HK.out _ _ ?_
  clear HK
  replace HI := TW.hide (blk_keep HI.out (below_drewN (Below.refl V.heap.size V) nq))
  have HMX := TW.hide (HMV.out.below (below_drewN (Below.refl V.heap.size V) nq))
  have HEX := TW.hide (HEV.out.below (below_drewN (Below.refl V.heap.size V) nq))
  clear HMV HEV
  generalize V.drewN nq = X at *
  clear z0 z1 z2 z3
  obtain ⟨z0, z1, z2, z3⟩ := cellsY4 HI.out
  clear c5 x1
  obtain ⟨sb, scap, e7, _, _, x2⟩ := HMX.out.sh1 c hc
  have c7 := HMX.out.c7
  rw [e7] at c7
  have q1 : (c : Int) < (t.shut.length : Int) := by omega
  have q0 : (0 : Int) ≤ (c : Int) := by omega
  generalize t.shut.getD c false = sh at *
  go_wp2
  go_quiet (fail)
  replace HI := TW.hide (blk_keep HI.out (below_drewN (Below.refl X.heap.size X) nq))
  have HMY := TW.hide (HMX.out.below (below_drewN (Below.refl X.heap.size X) nq))
  have HEY := TW.hide (HEX.out.below (below_drewN (Below.refl X.heap.size X) nq))
  clear HMX HEX
  generalize X.drewN nq = Y at *
  clear z0 z1 z2 z3
  obtain ⟨z0, z1, z2, z3⟩ := cellsY4 HI.out
  cases sh with
  | true =>
    go_wp2
    rw [← HP.out]
    exact ⟨rfl, m, HMY.out, HEY.out, rfl, rfl, rfl⟩
  | false =>
    go_wp2
    clear x2 c7
    have c7 := HMY.out.c7
    rw [e7] at c7
    refine wp_region_noPanic ?_
    refine RG.wp_region_L (fun Z => Below Y.heap.size Y Z) (fun Z => True) [7] (by kernel_rfl) ?_
    refine RG.wpL_any fun Ya hY => ?_
    have HBa : Hid (Below Y.heap.size Y Ya) := by rw [hY]; exact below_drewN (Below.refl _ _) 1
    clear hY
    refine RG.wpL_take (fuel := 1) (a' := ?Aa) [0, 1, 2, 3, 4, 5, 6] (by kernel_rfl) (by kernel_rfl) (fun _ _ _ _ _ h => h) trivial (fun _ => HBa.out) ?ra ?_
    case ra =>
      refine RG.RunsIf.weak (v := ?_) (by rfl) (by rfl) (fun Z hT => ?_) ?_
      rotate_left
      · go_simp
        rfl
      simp only [Act.put, List.setIfInBounds_toArray, List.set_cons_zero, List.set_cons_succ, List.getElem_toArray, List.getElem_cons_zero, List.getElem_cons_succ]
      refine RG.RunsIf.weak (v := ?_) (by rfl) (by rfl) (fun Z hT => ?_) ?_
      rotate_left
      · go_simp
        rfl
      simp only [Act.put, List.setIfInBounds_toArray, List.set_cons_zero, List.set_cons_succ, List.getElem_toArray, List.getElem_cons_zero, List.getElem_cons_succ]
      refine RG.RunsIf.weak (v := ?_) (by rfl) (by rfl) (fun Z hT => ?_) ?_
      rotate_left
      · go_simp
        rfl
      simp only [Act.put, List.setIfInBounds_toArray, List.set_cons_zero, List.set_cons_succ, List.getElem_toArray, List.getElem_cons_zero, List.getElem_cons_succ]
      refine RG.RunsIf.strong (v := .slice (some ⟨sb, 0, none⟩) t.shut.length scap) (by rfl) (by kernel_rfl) (by rfl) (fun Z hT hS => ?_) ?_
      · have z1 := keepC hS z1; have c7 := keepC hS c7
        go_simp
      simp only [Act.put, List.setIfInBounds_toArray, List.set_cons_zero, List.set_cons_succ, List.getElem_toArray, List.getElem_cons_zero, List.getElem_cons_succ]
      refine RG.RunsIf.weak (v := ?_) (by rfl) (by rfl) (fun Z hT => ?_) ?_
      rotate_left
      · go_simp
        rfl
      simp only [Act.put, List.setIfInBounds_toArray, List.set_cons_zero, List.set_cons_succ, List.getElem_toArray, List.getElem_cons_zero, List.getElem_cons_succ]
      refine RG.RunsIf.strong (v := .int .i64 (c : Int)) (by rfl) (by kernel_rfl) (by rfl) (fun Z hT hS => ?_) ?_
      · have z1 := keepC hS z1; have c7 := keepC hS c7
        go_simp
      simp only [Act.put, List.setIfInBounds_toArray, List.set_cons_zero, List.set_cons_succ, List.getElem_toArray, List.getElem_cons_zero, List.getElem_cons_succ]
      refine RG.RunsIf.weak (v := ?_) (by rfl) (by rfl) (fun Z hT => ?_) ?_
      rotate_left
      · go_simp
        rfl
      simp only [Act.put, List.setIfInBounds_toArray, List.set_cons_zero, List.set_cons_succ, List.getElem_toArray, List.getElem_cons_zero, List.getElem_cons_succ]
      exact RG.RunsIf.nil
    have HMa := TW.hide (HMY.out.below HBa.out)
    have HEa := TW.hide (HEY.out.below HBa.out)
    have HIa := TW.hide (blk_keep HI.out HBa.out)
    clear HI HMY HEY HBa
    obtain ⟨fz, cz⟩ := sh1_at HMa.out hc e7
    obtain ⟨_, hcur, hhb⟩ := row_is HMa.out.sht e7 (by omega)
    have hne : sb ≠ ge := by
      rintro rfl
      have := hhb.symm.trans HEa.out
      simp at this
    have HMz := TW.hide (HMa.out.setSh e7 (by omega) c true)
    have HEz : Hid (EvB (Ya.setCell ⟨sb, c, none⟩ (.bool true)) ge ⟨k, 7, c, 0, false⟩) := HEa.out.setB hne
    refine RG.wpL_late (i := 7) (by kernel_rfl) (by rfl) (by rfl) (by kernel_rfl) (fun KX hK => ?_)
    have HK := TW.hide hK
    clear hK
    go_simp
    refine HK.out _ _ trivial ?_
    clear HK KX cz fz
    refine RG.wpL_done (by kernel_rfl) ?_ _
    refine NoPanic.normal ?_
    go_wp2
    rw [← HP.out]
    exact ⟨rfl, m, HMz.out, HEz.out, rfl, rfl, rfl⟩
end LW
end Go.Proofs.Ytghpfhoajcgghaa
