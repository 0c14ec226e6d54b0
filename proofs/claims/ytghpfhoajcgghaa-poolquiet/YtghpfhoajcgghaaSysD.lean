/-
  What can of the document gives.
-/
import Derived.Test.YtghpfhoajcgghaaSysC
namespace Go.Proofs.Ytghpfhoajcgghaa
open Go.RowKit
set_option linter.unusedVariables false
set_option linter.unusedSimpArgs false
namespace LW
open Mc
theorem cells11R {w : World} {b : Nat} {t : TypeId} {v0 v1 v2 v3 v4 v5 v6 v7 v8 v9 v10 : Value} (h : w.heap[b]? = some (.cells #[v0, v1, v2, v3, v4, v5, v6, v7, v8, v9, v10] t (0, 0))) : w.cell? ⟨b, 0, none⟩ = some v0 ∧ w.cell? ⟨b, 1, none⟩ = some v1 ∧ w.cell? ⟨b, 2, none⟩ = some v2 ∧ w.cell? ⟨b, 3, none⟩ = some v3 ∧ w.cell? ⟨b, 4, none⟩ = some v4 ∧ w.cell? ⟨b, 5, none⟩ = some v5 ∧ w.cell? ⟨b, 6, none⟩ = some v6 ∧ w.cell? ⟨b, 7, none⟩ = some v7 ∧ w.cell? ⟨b, 8, none⟩ = some v8 ∧ w.cell? ⟨b, 9, none⟩ = some v9 ∧ w.cell? ⟨b, 10, none⟩ = some v10 := by
  simp [World.cell?, h]
set_option maxRecDepth 100000 in
set_option maxHeartbeats 4000000 in
theorem rcan (g : Nat) (s : Syst) (t : St) (k : Nat) (w : World) (h : RdM w g s t) (ho : Mc.Ok s) (hg : Mc.Good s t) (hk : k < t.rns.length) :
    Calls Try.prog 36 #[.pointer (some ⟨g, 0, none⟩), .int .i64 k] w fun e w' => e = .returned (.bool (Mc.can s t k)) ∧ Below w.heap.size w w' := by
  obtain ⟨rb, rcc, r1, r2⟩ := h.rn
  obtain ⟨pa, pc, ra, rc, y0, y1, hSM⟩ := h.sy
  have hGR := hg.gr k hk
  have HH := TW.hide h
  have x0 : w.cell? ⟨rb, k * 11, none⟩ = some (.int .i64 (Mc.rn t k).prog) := r2 k hk 0 (by omega)
  have x1 : w.cell? ⟨rb, k * 11 + 1, none⟩ = some (.int .i64 (Mc.rn t k).pos) := r2 k hk 1 (by omega)
  have x2 : w.cell? ⟨rb, k * 11 + 2, none⟩ = some (.int .i64 ((Mc.rn t k).regs.getD 0 0)) := r2 k hk 2 (by omega)
  have x3 : w.cell? ⟨rb, k * 11 + 3, none⟩ = some (.int .i64 ((Mc.rn t k).regs.getD 1 0)) := r2 k hk 3 (by omega)
  have x4 : w.cell? ⟨rb, k * 11 + 4, none⟩ = some (.int .i64 ((Mc.rn t k).regs.getD 2 0)) := r2 k hk 4 (by omega)
  have x5 : w.cell? ⟨rb, k * 11 + 5, none⟩ = some (.int .i64 ((Mc.rn t k).regs.getD 3 0)) := r2 k hk 5 (by omega)
  have x6 : w.cell? ⟨rb, k * 11 + 6, none⟩ = some (.int .i64 ((Mc.rn t k).regs.getD 4 0)) := r2 k hk 6 (by omega)
  have x7 : w.cell? ⟨rb, k * 11 + 7, none⟩ = some (.int .i64 ((Mc.rn t k).regs.getD 5 0)) := r2 k hk 7 (by omega)
  have x8 : w.cell? ⟨rb, k * 11 + 8, none⟩ = some (.int .i64 ((Mc.rn t k).regs.getD 6 0)) := r2 k hk 8 (by omega)
  have x9 : w.cell? ⟨rb, k * 11 + 9, none⟩ = some (.int .i64 ((Mc.rn t k).regs.getD 7 0)) := r2 k hk 9 (by omega)
  have x10 : w.cell? ⟨rb, k * 11 + 10, none⟩ = some (.bool (Mc.rn t k).ended) := r2 k hk 10 (by omega)
  have HC : Hid (Mc.can s t k = if (Mc.rn t k).ended = true then false
    else if (ins s t k).op = 5 then t.shut.getD (ins s t k).a.toNat false || decide (((t.held.getD (ins s t k).a.toNat []).length : Int) < s.rooms.getD (ins s t k).a.toNat 0)
    else if (ins s t k).op = 6 then t.shut.getD (ins s t k).a.toNat false || decide (0 < (t.held.getD (ins s t k).a.toNat []).length)
    else if (ins s t k).op = 8 then !(t.locked.getD (ins s t k).a.toNat false)
    else if (ins s t k).op = 11 then decide (t.groups.getD (ins s t k).a.toNat 0 = 0)
    else true) := rfl
  have HRI : Hid ((Mc.rn t k).ended = false → rightM s (Mc.rn t k).prog.toNat (ins s t k)) := fun he => ins_right ho hg hk he
  have HIN : Hid (ins s t k = (s.progs.getD (Mc.rn t k).prog.toNat []).getD (Mc.rn t k).pos.toNat i0) := rfl
  have HPR := TW.hide hGR.pr
  have HPS : Hid ((Mc.rn t k).ended = false → 0 ≤ (Mc.rn t k).pos ∧ (Mc.rn t k).pos < (s.progs.getD (Mc.rn t k).prog.toNat []).length) := hGR.ps
  have HSM := TW.hide hSM
  have hrl := hg.r2
  have HGd := TW.hide hg
  generalize Mc.can s t k = CN at *
  generalize (Mc.rn t k).prog = pr at *
  generalize (Mc.rn t k).pos = ps at *
  generalize (Mc.rn t k).regs.getD 0 0 = e0 at *
  generalize (Mc.rn t k).regs.getD 1 0 = e1 at *
  generalize (Mc.rn t k).regs.getD 2 0 = e2 at *
  generalize (Mc.rn t k).regs.getD 3 0 = e3 at *
  generalize (Mc.rn t k).regs.getD 4 0 = e4 at *
  generalize (Mc.rn t k).regs.getD 5 0 = e5 at *
  generalize (Mc.rn t k).regs.getD 6 0 = e6 at *
  generalize (Mc.rn t k).regs.getD 7 0 = e7 at *
  generalize (Mc.rn t k).ended = en at *
  clear r2 h hGR hSM
  generalize t.rns.length = n at *
  have hk1 : (k : Int) < (n : Int) := by omega
  have hk0 : (0 : Int) ≤ (k : Int) := by omega
  have hA : Below w.heap.size w ((w.alloc (.cells #[.int .i64 0, .int .i64 0, .int .i64 0, .int .i64 0, .int .i64 0, .int .i64 0, .int .i64 0, .int .i64 0, .int .i64 0, .int .i64 0, .bool false] 86)).setRow w.heap.size #[.int .i64 pr, .int .i64 ps, .int .i64 e0, .int .i64 e1, .int .i64 e2, .int .i64 e3, .int .i64 e4, .int .i64 e5, .int .i64 e6, .int .i64 e7, .bool en]) := below_setRow ((Below.refl _ _).alloc (Nat.le_refl _) _) (Nat.le_refl _)
  have NR1 : Hid (((w.alloc (.cells #[.int .i64 0, .int .i64 0, .int .i64 0, .int .i64 0, .int .i64 0, .int .i64 0, .int .i64 0, .int .i64 0, .int .i64 0, .int .i64 0, .bool false] 86)).setRow w.heap.size #[.int .i64 pr, .int .i64 ps, .int .i64 e0, .int .i64 e1, .int .i64 e2, .int .i64 e3, .int .i64 e4, .int .i64 e5, .int .i64 e6, .int .i64 e7, .bool en]).heap[w.heap.size]? = some (.cells #[.int .i64 pr, .int .i64 ps, .int .i64 e0, .int .i64 e1, .int .i64 e2, .int .i64 e3, .int .i64 e4, .int .i64 e5, .int .i64 e6, .int .i64 e7, .bool en] 86 (0, 0))) := setRow_heap _ _ _ _ _ _ (heap_alloc_new w _)
  have NB := TW.hide hA
  clear hA
  go_enter Try.func36, Try.ntmps36
  refine wp_seq_k fun K hK => ?_
  have HK := TW.hide hK
  clear hK
  go_wp2
  refine HK.out _ _ ?_
  clear HK K
  refine wp_seq_k fun K hK => ?_
  have HK := TW.hide hK
  clear hK
  go_wp2_with (refine wpList_store_row (by rfl) 86 _ _ (by rfl) w.heap.size #[.int .i64 pr, .int .i64 ps, .int .i64 e0, .int .i64 e1, .int .i64 e2, .int .i64 e3, .int .i64 e4, .int .i64 e5, .int .i64 e6, .int .i64 e7, .bool en] (by rfl) (by rfl) 86 _ (heap_alloc_new w _) (by kernel_rfl) (by rfl) (by simp [Value.oneCell']) ?_)
  refine HK.out _ _ ?_
  clear HK K
  generalize World.setRow _ _ _ = X at *
  simp only [Act.put, List.setIfInBounds_toArray, List.set_cons_zero, List.set_cons_succ, List.getElem_toArray, List.getElem_cons_zero, List.getElem_cons_succ]
  obtain ⟨z0, z1, _, _, _, _, _, _, _, _, z10⟩ := cells11R NR1.out
  cases en with
  | true =>
    have HF : Hid (CN = false) := by show _ = _; rw [HC.out, if_pos rfl]
    go_wp2
    go_ret
    exact ⟨by rw [HF.out]; rfl, NB.out⟩
  | false =>
    have hps := HPS.out rfl
    have hpr := HPR.out
    have hri := HRI.out rfl
    clear HPS HRI HPR x0 x1 x2 x3 x4 x5 x6 x7 x8 x9 x10 r1
    obtain ⟨pn, rfl⟩ : ∃ pn : Nat, pr = (pn : Int) := ⟨pr.toNat, by omega⟩
    obtain ⟨qn, rfl⟩ : ∃ qn : Nat, ps = (qn : Int) := ⟨ps.toNat, by omega⟩
    rw [Int.toNat_natCast] at hps hri HIN
    rw [Int.toNat_natCast] at HIN
    obtain ⟨pb, po, rfl, ib, io, ic, p0, q0, q1, q2, q3⟩ : ∃ pb po, pa = some ⟨pb, po, none⟩ ∧ ∃ ib io ic, X.cell? ⟨pb, po + pn, none⟩ = some (.slice (some ⟨ib, io, none⟩) (s.progs.getD pn []).length ic) ∧ X.cell? ⟨ib, io + qn * 4, none⟩ = some (.int .i64 (ins s t k).op) ∧ X.cell? ⟨ib, io + qn * 4 + 1, none⟩ = some (.int .i64 (ins s t k).a) ∧ X.cell? ⟨ib, io + qn * 4 + 2, none⟩ = some (.int .i64 (ins s t k).b) ∧ X.cell? ⟨ib, io + qn * 4 + 3, none⟩ = some (.int .i64 (ins s t k).c) := by
      rcases (HSM.out.below NB.out).pr with h | ⟨pb, po, e, hc⟩
      · exfalso; have := hpr.2; rw [h] at this; simp at this; omega
      · obtain ⟨A, K, h1, h2⟩ := hc pn (by omega)
        rcases h2 with h2 | ⟨ib, io, e2, hc2⟩
        · exfalso; have := hps.2; rw [h2] at this; simp at this; omega
        · subst e2
          have h3 := hc2 qn (by omega)
          rw [← HIN.out] at h3
          exact ⟨pb, po, e, ib, io, K, h1, h3⟩
    have y0 := keepC NB.out y0
    have HHX := TW.hide (HH.out.below NB.out)
    clear HSM HH HIN y1
    have hq1 := hps.2
    generalize (s.progs.getD pn []).length = il at *
    generalize hpl : s.progs.length = pl at *
    obtain ⟨I, hI⟩ : ∃ I, ins s t k = I := ⟨_, rfl⟩
    rw [hI] at q0 q1 q2 q3 hri HC
    obtain ⟨op, a0, a1, a2⟩ := I
    dsimp only at q0 q1 q2 q3 HC
    have hp1 : (pn : Int) < (pl : Int) := by omega
    have hp0 : (0 : Int) ≤ (pn : Int) := by omega
    have hq2 : (qn : Int) < (il : Int) := by omega
    have hq0 : (0 : Int) ≤ (qn : Int) := by omega
    have HRIT := TW.hide hri
    clear hri hI hps hpr hpl hq1
    refine wp_seq_k fun K hK => ?_
    have HK := TW.hide hK
    clear hK
    go_wp2
    refine HK.out _ _ ?_
    clear HK K
    refine wp_seq_k fun K hK => ?_
    have HK9 := TW.hide hK
    clear hK
    refine wp_region_noPanic ?_
    refine RG.wp_region_L (fun Z => True) (fun Z => Below X.heap.size X Z) [] (by kernel_rfl) ?_
    refine RG.wpL_any fun Y hY => ?_
    have HTa : Hid (Below X.heap.size X Y) := by rw [hY]; exact below_drewN (Below.refl _ _) 1
    clear hY
    refine RG.wpL_take (fuel := 2) (a' := ?Aa) [0, 1, 2, 3, 4, 5, 6, 7, 8, 9, 10, 11, 12] (by kernel_rfl) (by kernel_rfl) (fun _ _ _ _ _ h => h) HTa.out (fun _ => trivial) ?ra ?_
    case ra =>
      refine RG.RunsIf.weak (v := ?_) (by rfl) (by rfl) (fun Z hT => ?_) ?_
      rotate_left
      · go_simp
        rfl
      simp only [Act.put, List.setIfInBounds_toArray, List.set_cons_zero, List.set_cons_succ, List.getElem_toArray, List.getElem_cons_zero, List.getElem_cons_succ]
      refine RG.RunsIf.weak (v := ?_) (by rfl) (by rfl) (fun Z hT => ?_) ?_
      rotate_left
      · go_simp
        rfl
      simp only [Act.put, List.setIfInBounds_toArray, List.set_cons_zero, List.set_cons_succ, List.getElem_toArray, List.getElem_cons_zero, List.getElem_cons_succ]
      refine RG.RunsIf.weak (v := ?_) (by rfl) (by rfl) (fun Z hT => ?_) ?_
      rotate_left
      · go_simp
        rfl
      simp only [Act.put, List.setIfInBounds_toArray, List.set_cons_zero, List.set_cons_succ, List.getElem_toArray, List.getElem_cons_zero, List.getElem_cons_succ]
      refine RG.RunsIf.weak (v := ?_) (by rfl) (by rfl) (fun Z hT => ?_) ?_
      rotate_left
      · go_simp
        rfl
      simp only [Act.put, List.setIfInBounds_toArray, List.set_cons_zero, List.set_cons_succ, List.getElem_toArray, List.getElem_cons_zero, List.getElem_cons_succ]
      refine RG.RunsIf.weak (v := .slice (some ⟨pb, po, none⟩) pl pc) (by rfl) (by rfl) (fun Z hT => ?_) ?_
      · have y0 := keepC hT y0
        go_simp
      simp only [Act.put, List.setIfInBounds_toArray, List.set_cons_zero, List.set_cons_succ, List.getElem_toArray, List.getElem_cons_zero, List.getElem_cons_succ]
      refine RG.RunsIf.weak (v := ?_) (by rfl) (by rfl) (fun Z hT => ?_) ?_
      rotate_left
      · go_simp
        rfl
      simp only [Act.put, List.setIfInBounds_toArray, List.set_cons_zero, List.set_cons_succ, List.getElem_toArray, List.getElem_cons_zero, List.getElem_cons_succ]
      refine RG.RunsIf.weak (v := .int .i64 (pn : Int)) (by rfl) (by rfl) (fun Z hT => ?_) ?_
      · have z0 := keepC hT z0; have z1 := keepC hT z1
        go_simp
      simp only [Act.put, List.setIfInBounds_toArray, List.set_cons_zero, List.set_cons_succ, List.getElem_toArray, List.getElem_cons_zero, List.getElem_cons_succ]
      refine RG.RunsIf.weak (v := ?_) (by rfl) (by rfl) (fun Z hT => ?_) ?_
      rotate_left
      · go_simp
        rfl
      simp only [Act.put, List.setIfInBounds_toArray, List.set_cons_zero, List.set_cons_succ, List.getElem_toArray, List.getElem_cons_zero, List.getElem_cons_succ]
      refine RG.RunsIf.weak (v := .slice (some ⟨ib, io, none⟩) il ic) (by rfl) (by rfl) (fun Z hT => ?_) ?_
      · have p0 := keepC hT p0
        go_simp
      simp only [Act.put, List.setIfInBounds_toArray, List.set_cons_zero, List.set_cons_succ, List.getElem_toArray, List.getElem_cons_zero, List.getElem_cons_succ]
      refine RG.RunsIf.weak (v := ?_) (by rfl) (by rfl) (fun Z hT => ?_) ?_
      rotate_left
      · go_simp
        rfl
      simp only [Act.put, List.setIfInBounds_toArray, List.set_cons_zero, List.set_cons_succ, List.getElem_toArray, List.getElem_cons_zero, List.getElem_cons_succ]
      refine RG.RunsIf.weak (v := .int .i64 (qn : Int)) (by rfl) (by rfl) (fun Z hT => ?_) ?_
      · have z0 := keepC hT z0; have z1 := keepC hT z1
        go_simp
      simp only [Act.put, List.setIfInBounds_toArray, List.set_cons_zero, List.set_cons_succ, List.getElem_toArray, List.getElem_cons_zero, List.getElem_cons_succ]
      refine RG.RunsIf.weak (v := ?_) (by rfl) (by rfl) (fun Z hT => ?_) ?_
      rotate_left
      · go_simp
        rfl
      simp only [Act.put, List.setIfInBounds_toArray, List.set_cons_zero, List.set_cons_succ, List.getElem_toArray, List.getElem_cons_zero, List.getElem_cons_succ]
      refine RG.RunsIf.weak (v := .agg #[.int .i64 op, .int .i64 a0, .int .i64 a1, .int .i64 a2]) (by rfl) (by rfl) (fun Z hT => ?_) ?_
      · have q0 := keepC hT q0; have q1 := keepC hT q1; have q2 := keepC hT q2; have q3 := keepC hT q3
        go_simp
      simp only [Act.put, List.setIfInBounds_toArray, List.set_cons_zero, List.set_cons_succ, List.getElem_toArray, List.getElem_cons_zero, List.getElem_cons_succ]
      exact RG.RunsIf.nil
    have HT1 : Hid (Below X.heap.size X (Y.alloc (.cells #[.int .i64 0, .int .i64 0, .int .i64 0, .int .i64 0] 53))) := HTa.out.alloc HTa.out.size _
    refine RG.wpL_step (i := 13) (by kernel_rfl) (by rfl) (by rfl) (fun KX hK => ?_)
    have HK := TW.hide hK
    clear hK
    go_simp
    refine HK.out _ _ HT1.out (fun _ => trivial) ?_
    clear HK KX
    have HT2 : Hid (Below X.heap.size X ((Y.alloc (.cells #[.int .i64 0, .int .i64 0, .int .i64 0, .int .i64 0] 53)).setRow Y.heap.size #[.int .i64 op, .int .i64 a0, .int .i64 a1, .int .i64 a2])) := below_setRow HT1.out HTa.out.size
    have NI : Hid (((Y.alloc (.cells #[.int .i64 0, .int .i64 0, .int .i64 0, .int .i64 0] 53)).setRow Y.heap.size #[.int .i64 op, .int .i64 a0, .int .i64 a1, .int .i64 a2]).heap[Y.heap.size]? = some (.cells #[.int .i64 op, .int .i64 a0, .int .i64 a1, .int .i64 a2] 53 (0, 0))) := setRow_heap _ _ _ _ _ _ (heap_alloc_new Y _)
    refine RG.wpL_step (i := 14) (by kernel_rfl) (by rfl) (by rfl) (fun KX hK => ?_)
    have HK := TW.hide hK
    clear hK
    refine wp_store_row 53 _ _ (by rfl) Y.heap.size #[.int .i64 op, .int .i64 a0, .int .i64 a1, .int .i64 a2] (by rfl) (by rfl) 53 _ (heap_alloc_new Y _) (by kernel_rfl) (by rfl) (by simp [Value.oneCell']) ?_
    refine HK.out _ _ HT2.out (fun _ => trivial) ?_
    clear HK KX HT1 HTa
    generalize World.setRow _ _ _ = V at *
    generalize Y.heap.size = gi at *
    refine RG.wpL_done (by kernel_rfl) ?_ _
    refine NoPanic.normal ?_

    refine HK9.out _ _ ?_
    clear HK9 K y0 z0 z1 z10 p0 q0 q1 q2 q3
    have NBV : Hid (Below w.heap.size w V) := NB.out.trans (HT2.out.mono NB.out.size)
    have HHV := TW.hide (HHX.out.below HT2.out)
    obtain ⟨i1, i2, i3, i4⟩ := cellsY4 NI.out
    clear HHX NB NR1
    simp only [Act.put, List.setIfInBounds_toArray, List.set_cons_zero, List.set_cons_succ, List.getElem_toArray, List.getElem_cons_zero, List.getElem_cons_succ]
    by_cases h5 : op = 5
    · have hf := fit_c (show fitM s _ 99 a0 from by have := HRIT.out; obtain ⟨_, _, ha, _⟩ := this; rw [h5] at ha; exact ha)
      obtain ⟨an, rfl⟩ : ∃ an : Nat, a0 = (an : Int) := ⟨a0.toNat, by omega⟩
      have HF : Hid (CN = (t.shut.getD an false || decide (((t.held.getD an []).length : Int) < s.rooms.getD an 0))) := by
        show _ = _
        rw [HC.out, if_neg (by decide), if_pos h5, Int.toNat_natCast]
      obtain ⟨sa, sc, g7, hs2⟩ := HHV.out.sh
      obtain ⟨ha_, hc_, g6, hh2⟩ := HHV.out.hl
      obtain ⟨_, _, ra', rc', _, g1, hsm⟩ := HHV.out.sy
      have hlS := HGd.out.sl
      have hlH := HGd.out.hl
      obtain ⟨sb, rfl, hsc⟩ : ∃ b, sa = some ⟨b, 0, none⟩ ∧ V.cell? ⟨b, an, none⟩ = some (.bool (t.shut.getD an false)) := by
        rcases hs2 with h | ⟨b, e, hc⟩
        · exfalso; rw [h] at hlS; simp at hlS; omega
        · exact ⟨b, e, hc an (by omega)⟩
      obtain ⟨hb, rfl, hA', hK', hhc⟩ : ∃ b, ha_ = some ⟨b, 0, none⟩ ∧ ∃ A K, V.cell? ⟨b, an, none⟩ = some (.slice A (t.held.getD an []).length K) := by
        rcases hh2 with h | ⟨b, e, hc⟩
        · exfalso; rw [h] at hlH; simp at hlH; omega
        · exact ⟨b, e, hc an (by omega)⟩
      obtain ⟨mb, mo, rfl, hmc⟩ : ∃ b off, ra' = some ⟨b, off, none⟩ ∧ V.cell? ⟨b, off + an, none⟩ = some (.int .i64 (s.rooms.getD an 0)) := by
        rcases hsm.rm with h | ⟨b, off, e, hc⟩
        · exfalso; rw [h] at hf; simp at hf; omega
        · exact ⟨b, off, e, hc an (by omega)⟩
      have ks : (an : Int) < (t.shut.length : Int) := by omega
      have kh : (an : Int) < (t.held.length : Int) := by omega
      have km : (an : Int) < (s.rooms.length : Int) := by omega
      have k0 : (0 : Int) ≤ (an : Int) := by omega
      have k5 : (op == 5) = true := by simp [h5]
      clear hs2 hh2 hsm hlS hlH hf HHV
      generalize t.shut.getD an false = sv at *
      generalize (t.held.getD an []).length = hl_ at *
      generalize s.rooms.getD an 0 = rv at *
      generalize t.shut.length = l1 at *
      generalize t.held.length = l2 at *
      generalize s.rooms.length = l3 at *
      clear h5
      cases sv with
      | true =>
        go_wp2
        go_quiet (fail)
        go_wp2
        go_ret
        exact ⟨by rw [HF.out]; rfl, below_drewN NBV.out _⟩
      | false =>
        go_wp2
        go_quiet (fail)
        go_wp2
        go_ret
        exact ⟨by rw [HF.out]; simp, below_drewN NBV.out _⟩
    have k5 : (op == 5) = false := by simp [h5]
    by_cases h6 : op = 6
    · have hf := fit_c (show fitM s _ 99 a0 from by have := HRIT.out; obtain ⟨_, _, ha, _⟩ := this; rw [h6] at ha; exact ha)
      obtain ⟨an, rfl⟩ : ∃ an : Nat, a0 = (an : Int) := ⟨a0.toNat, by omega⟩
      have HF : Hid (CN = (t.shut.getD an false || decide (0 < (t.held.getD an []).length))) := by
        show _ = _
        rw [HC.out, if_neg (by decide), if_neg h5, if_pos h6, Int.toNat_natCast]
      obtain ⟨sa, sc, g7, hs2⟩ := HHV.out.sh
      obtain ⟨ha_, hc_, g6, hh2⟩ := HHV.out.hl
      have hlS := HGd.out.sl
      have hlH := HGd.out.hl
      obtain ⟨sb, rfl, hsc⟩ : ∃ b, sa = some ⟨b, 0, none⟩ ∧ V.cell? ⟨b, an, none⟩ = some (.bool (t.shut.getD an false)) := by
        rcases hs2 with h | ⟨b, e, hc⟩
        · exfalso; rw [h] at hlS; simp at hlS; omega
        · exact ⟨b, e, hc an (by omega)⟩
      obtain ⟨hb, rfl, hA', hK', hhc⟩ : ∃ b, ha_ = some ⟨b, 0, none⟩ ∧ ∃ A K, V.cell? ⟨b, an, none⟩ = some (.slice A (t.held.getD an []).length K) := by
        rcases hh2 with h | ⟨b, e, hc⟩
        · exfalso; rw [h] at hlH; simp at hlH; omega
        · exact ⟨b, e, hc an (by omega)⟩
      have ks : (an : Int) < (t.shut.length : Int) := by omega
      have kh : (an : Int) < (t.held.length : Int) := by omega
      have k0 : (0 : Int) ≤ (an : Int) := by omega
      have k6 : (op == 6) = true := by simp [h6]
      clear hs2 hh2 hlS hlH hf HHV h5 h6
      generalize t.shut.getD an false = sv at *
      generalize (t.held.getD an []).length = hl_ at *
      generalize t.shut.length = l1 at *
      generalize t.held.length = l2 at *
      cases sv with
      | true =>
        go_wp2
        go_quiet (fail)
        go_wp2
        go_ret
        exact ⟨by rw [HF.out]; rfl, below_drewN NBV.out _⟩
      | false =>
        go_wp2
        go_quiet (fail)
        go_wp2
        go_ret
        exact ⟨by rw [HF.out]; simp, below_drewN NBV.out _⟩
    have k6 : (op == 6) = false := by simp [h6]
    by_cases h8 : op = 8
    · have hf := fit_l (show fitM s _ 108 a0 from by have := HRIT.out; obtain ⟨_, _, ha, _⟩ := this; rw [h8] at ha; exact ha)
      obtain ⟨an, rfl⟩ : ∃ an : Nat, a0 = (an : Int) := ⟨a0.toNat, by omega⟩
      have HF : Hid (CN = !(t.locked.getD an false)) := by
        show _ = _
        rw [HC.out, if_neg (by decide), if_neg h5, if_neg h6, if_pos h8, Int.toNat_natCast]
      obtain ⟨sa, sc, g8, hs2⟩ := HHV.out.lk
      have hlS := HGd.out.ll
      obtain ⟨sb, rfl, hsc⟩ : ∃ b, sa = some ⟨b, 0, none⟩ ∧ V.cell? ⟨b, an, none⟩ = some (.bool (t.locked.getD an false)) := by
        rcases hs2 with h | ⟨b, e, hc⟩
        · exfalso; rw [h] at hlS; simp at hlS; omega
        · exact ⟨b, e, hc an (by omega)⟩
      have ks : (an : Int) < (t.locked.length : Int) := by omega
      have k0 : (0 : Int) ≤ (an : Int) := by omega
      have k8 : (op == 8) = true := by simp [h8]
      clear hs2 hlS hf HHV h5 h6 h8
      generalize t.locked.getD an false = sv at *
      generalize t.locked.length = l1 at *
      go_wp2
      go_quiet (fail)
      go_wp2
      go_ret
      exact ⟨by rw [HF.out]; rfl, below_drewN NBV.out _⟩
    have k8 : (op == 8) = false := by simp [h8]
    by_cases h11 : op = 11
    · have hf := fit_g (show fitM s _ 103 a0 from by have := HRIT.out; obtain ⟨_, _, ha, _⟩ := this; rw [h11] at ha; exact ha)
      obtain ⟨an, rfl⟩ : ∃ an : Nat, a0 = (an : Int) := ⟨a0.toNat, by omega⟩
      have HF : Hid (CN = decide (t.groups.getD an 0 = 0)) := by
        show _ = _
        rw [HC.out, if_neg (by decide), if_neg h5, if_neg h6, if_neg h8, if_pos h11, Int.toNat_natCast]
      obtain ⟨sa, sc, g9, hs2⟩ := HHV.out.gr
      have hlS := HGd.out.gl
      obtain ⟨sb, rfl, hsc⟩ : ∃ b, sa = some ⟨b, 0, none⟩ ∧ V.cell? ⟨b, an, none⟩ = some (.int .i64 (t.groups.getD an 0)) := by
        rcases hs2 with h | ⟨b, e, hc⟩
        · exfalso; rw [h] at hlS; simp at hlS; omega
        · exact ⟨b, e, hc an (by omega)⟩
      have ks : (an : Int) < (t.groups.length : Int) := by omega
      have k0 : (0 : Int) ≤ (an : Int) := by omega
      have k11 : (op == 11) = true := by simp [h11]
      clear hs2 hlS hf HHV h5 h6 h8 h11
      generalize t.groups.getD an 0 = gv at *
      generalize t.groups.length = l1 at *
      obtain ⟨bb, hbb⟩ : ∃ bb, (gv == 0) = bb := ⟨_, rfl⟩
      have HF2 : Hid (CN = bb) := by
        show _ = _
        rw [HF.out, ← hbb]
        by_cases h : gv = 0 <;> simp [h]
      go_wp2
      go_quiet (fail)
      go_wp2
      go_ret
      exact ⟨by rw [HF2.out]; rfl, below_drewN NBV.out _⟩
    have k11 : (op == 11) = false := by simp [h11]
    have HF : Hid (CN = true) := by
      show _ = _
      rw [HC.out, if_neg (by decide), if_neg h5, if_neg h6, if_neg h8, if_neg h11]
    clear h5 h6 h8 h11
    go_wp2
    go_ret
    exact ⟨by rw [HF.out]; rfl, NBV.out⟩
end LW
end Go.Proofs.Ytghpfhoajcgghaa
