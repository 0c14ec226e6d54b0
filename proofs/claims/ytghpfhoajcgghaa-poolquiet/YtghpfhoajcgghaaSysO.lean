/-
  What own of the document's machine does.
-/
import Derived.Test.YtghpfhoajcgghaaWMem3
namespace Go.Proofs.Ytghpfhoajcgghaa
open Go.RowKit
set_option linter.unusedVariables false
set_option linter.unusedSimpArgs false
namespace LW
open Mc
set_option maxRecDepth 100000 in
set_option maxHeartbeats 4000000 in
theorem rown {o : World} {g : Nat} {s : Syst} {pa : Option Addr} {pc : Nat} {ra : Option Addr} {rc : Nat} {t : St} {m : WV} (k : Nat) (w : World) (h : WM o w g s pa pc ra rc t m) (ho : Mc.Ok s) (hg : Mc.Good s t) (hk : k < t.rns.length) (he : (Mc.rn t k).ended = false) :
    Calls Try.prog 40 #[.pointer (some ⟨g, 0, none⟩), .int .i64 k, .agg #[.int .i64 (ins s t k).op, .int .i64 (ins s t k).a, .int .i64 (ins s t k).b, .int .i64 (ins s t k).c]] w fun e w' => e = .returned (.tuple #[]) ∧ WM o w' g s pa pc ra rc { t with rns := Mc.own s t k } m ∧ ∀ ge e, EvB w ge e → EvB w' ge e := by
  obtain ⟨rb, cap, cur, hrv, hB, hh⟩ := own_at h.rns (by omega)
  have hrd := h.rd (by omega)
  obtain ⟨rb', c', r1, r2⟩ := hrd.rn
  have hE : rb' = rb ∧ c' = cap := by
    have := blk_cell h.blk (i := 5) rfl
    rw [r1, hrv] at this
    injection this with this
    injection this with e1 e2 e3
    injection e1 with e1
    injection e1 with e1
    exact ⟨e1, e3⟩
  obtain ⟨rfl, rfl⟩ := hE
  have x2 : w.cell? ⟨rb', k * 11 + 2, none⟩ = some (.int .i64 ((Mc.rn t k).regs.getD 0 0)) := r2 k hk 2 (by omega)
  have x3 : w.cell? ⟨rb', k * 11 + 3, none⟩ = some (.int .i64 ((Mc.rn t k).regs.getD 1 0)) := r2 k hk 3 (by omega)
  have x4 : w.cell? ⟨rb', k * 11 + 4, none⟩ = some (.int .i64 ((Mc.rn t k).regs.getD 2 0)) := r2 k hk 4 (by omega)
  have x5 : w.cell? ⟨rb', k * 11 + 5, none⟩ = some (.int .i64 ((Mc.rn t k).regs.getD 3 0)) := r2 k hk 5 (by omega)
  have x6 : w.cell? ⟨rb', k * 11 + 6, none⟩ = some (.int .i64 ((Mc.rn t k).regs.getD 4 0)) := r2 k hk 6 (by omega)
  have x7 : w.cell? ⟨rb', k * 11 + 7, none⟩ = some (.int .i64 ((Mc.rn t k).regs.getD 5 0)) := r2 k hk 7 (by omega)
  have x8 : w.cell? ⟨rb', k * 11 + 8, none⟩ = some (.int .i64 ((Mc.rn t k).regs.getD 6 0)) := r2 k hk 8 (by omega)
  have x9 : w.cell? ⟨rb', k * 11 + 9, none⟩ = some (.int .i64 ((Mc.rn t k).regs.getD 7 0)) := r2 k hk 9 (by omega)
  have HRI := TW.hide (ins_right ho hg hk he)
  have HM := TW.hide h
  have HGd := TW.hide hg
  have HK_ := TW.hide hk
  have hk1 : (k : Int) < (t.rns.length : Int) := by omega
  have hk0 : (0 : Int) ≤ (k : Int) := by omega
  clear r2 hrd h hg hk he hB
  have HLn : Hid ((Mc.rn t k).regs.length = 8) := (HGd.out.gr k HK_.out).rl
  have HRg : Hid (∀ r : Nat, r < 8 → #[Value.int .i64 ((Mc.rn t k).regs.getD 0 0), .int .i64 ((Mc.rn t k).regs.getD 1 0), .int .i64 ((Mc.rn t k).regs.getD 2 0), .int .i64 ((Mc.rn t k).regs.getD 3 0), .int .i64 ((Mc.rn t k).regs.getD 4 0), .int .i64 ((Mc.rn t k).regs.getD 5 0), .int .i64 ((Mc.rn t k).regs.getD 6 0), .int .i64 ((Mc.rn t k).regs.getD 7 0)][r]? = some (.int .i64 ((Mc.rn t k).regs.getD r 0))) := by
    intro r hr
    obtain rfl | rfl | rfl | rfl | rfl | rfl | rfl | rfl : r = 0 ∨ r = 1 ∨ r = 2 ∨ r = 3 ∨ r = 4 ∨ r = 5 ∨ r = 6 ∨ r = 7 := by omega
    all_goals rfl
  have HOw : Hid (Mc.own s t k = if (ins s t k).op = 1 then setR t k (ins s t k).a (ins s t k).b
    else if (ins s t k).op = 2 then setR t k (ins s t k).a (IntKind.i64.wrap (reg t k (ins s t k).a + reg t k (ins s t k).b))
    else if (ins s t k).op = 3 then (if reg t k (ins s t k).a < reg t k (ins s t k).b then setP t k ((ins s t k).c - 1) else t.rns)
    else if (ins s t k).op = 4 then setP t k ((ins s t k).c - 1)
    else if (ins s t k).op = 16 then t.rns.set k { Mc.rn t k with ended := true }
    else t.rns) := rfl
  generalize Mc.own s t k = OW at *
  generalize he0 : (Mc.rn t k).regs.getD 0 0 = e0 at x2 HRg
  clear he0
  generalize he1 : (Mc.rn t k).regs.getD 1 0 = e1 at x3 HRg
  clear he1
  generalize he2 : (Mc.rn t k).regs.getD 2 0 = e2 at x4 HRg
  clear he2
  generalize he3 : (Mc.rn t k).regs.getD 3 0 = e3 at x5 HRg
  clear he3
  generalize he4 : (Mc.rn t k).regs.getD 4 0 = e4 at x6 HRg
  clear he4
  generalize he5 : (Mc.rn t k).regs.getD 5 0 = e5 at x7 HRg
  clear he5
  generalize he6 : (Mc.rn t k).regs.getD 6 0 = e6 at x8 HRg
  clear he6
  generalize he7 : (Mc.rn t k).regs.getD 7 0 = e7 at x9 HRg
  clear he7
  obtain ⟨I, hI⟩ : ∃ I, ins s t k = I := ⟨_, rfl⟩
  rw [hI] at HRI HOw ⊢
  clear hI
  obtain ⟨op, a0, a1, a2⟩ := I
  dsimp only at HOw ⊢
  generalize hn : t.rns.length = n at r1 hrv hk1
  have HN := TW.hide hn
  clear hn
  have hA0 : Below w.heap.size w (w.alloc (.cells #[.int .i64 op, .int .i64 a0, .int .i64 a1, .int .i64 a2] 53)) := (Below.refl _ _).alloc (Nat.le_refl _) _
  have NI0 : (w.alloc (.cells #[.int .i64 op, .int .i64 a0, .int .i64 a1, .int .i64 a2] 53)).heap[w.heap.size]? = some (.cells #[.int .i64 op, .int .i64 a0, .int .i64 a1, .int .i64 a2] 53 (0, 0)) := heap_alloc_new w _
  go_enter Try.func40, Try.ntmps40
  refine wp_seq_k fun K hK => ?_
  have HK := TW.hide hK
  clear hK
  go_wp2
  refine HK.out _ _ ?_
  clear HK K
  replace r1 := keepC hA0 r1
  have x2 := keepC hA0 x2
  have x3 := keepC hA0 x3
  have x4 := keepC hA0 x4
  have x5 := keepC hA0 x5
  have x6 := keepC hA0 x6
  have x7 := keepC hA0 x7
  have x8 := keepC hA0 x8
  have x9 := keepC hA0 x9
  have HB0 := TW.hide hA0
  have HI0 := TW.hide NI0
  have hgi : w.heap.size < (w.alloc (.cells #[.int .i64 op, .int .i64 a0, .int .i64 a1, .int .i64 a2] 53)).heap.size := blk_lt NI0
  clear hA0 NI0
  generalize (w.alloc (.cells #[.int .i64 op, .int .i64 a0, .int .i64 a1, .int .i64 a2] 53)) = V at *
  generalize hgi_ : w.heap.size = gi at *
  have hB1 : Below V.heap.size V ((V.alloc (.cells #[.int .i64 0, .int .i64 0, .int .i64 0, .int .i64 0, .int .i64 0, .int .i64 0, .int .i64 0, .int .i64 0] 84)).setRow V.heap.size #[.int .i64 e0, .int .i64 e1, .int .i64 e2, .int .i64 e3, .int .i64 e4, .int .i64 e5, .int .i64 e6, .int .i64 e7]) := below_setRow ((Below.refl _ _).alloc (Nat.le_refl _) _) (Nat.le_refl _)
  have NR1 : Hid (((V.alloc (.cells #[.int .i64 0, .int .i64 0, .int .i64 0, .int .i64 0, .int .i64 0, .int .i64 0, .int .i64 0, .int .i64 0] 84)).setRow V.heap.size #[.int .i64 e0, .int .i64 e1, .int .i64 e2, .int .i64 e3, .int .i64 e4, .int .i64 e5, .int .i64 e6, .int .i64 e7]).heap[V.heap.size]? = some (.cells #[.int .i64 e0, .int .i64 e1, .int .i64 e2, .int .i64 e3, .int .i64 e4, .int .i64 e5, .int .i64 e6, .int .i64 e7] 84 (0, 0))) := setRow_heap _ _ _ _ _ _ (heap_alloc_new V _)
  have NB1 := TW.hide hB1
  clear hB1
  refine wp_seq_k fun K hK => ?_
  have HK := TW.hide hK
  clear hK
  go_wp2_with (refine wpList_store_row (by rfl) 84 _ _ (by rfl) V.heap.size #[.int .i64 e0, .int .i64 e1, .int .i64 e2, .int .i64 e3, .int .i64 e4, .int .i64 e5, .int .i64 e6, .int .i64 e7] (by rfl) (by rfl) 84 _ (heap_alloc_new V _) (by kernel_rfl) (by rfl) (by simp [Value.oneCell']) ?_)
  refine HK.out _ _ ?_
  clear HK K
  generalize World.setRow _ _ _ = X at *
  simp only [Act.put, List.setIfInBounds_toArray, List.set_cons_zero, List.set_cons_succ, List.getElem_toArray, List.getElem_cons_zero, List.getElem_cons_succ]
  obtain ⟨z0, z1, z2, z3⟩ := cellsY4 (blk_keep HI0.out NB1.out)
  replace r1 := keepC NB1.out r1
  have HRX : Hid (∀ r : Nat, r < 8 → X.cell? ⟨V.heap.size, r, none⟩ = some (.int .i64 (reg t k (r : Nat)))) := fun r hr => by
    have := blk_cell NR1.out (HRg.out r hr)
    simpa [reg] using this
  have HBX : Hid (Below gi w X) := HB0.out.trans (NB1.out.mono (by omega))
  have HMX : Hid (WM o X g s pa pc ra rc t m) := HM.out.below (by rw [hgi_]; exact HBX.out)
  have HhX : Hid (∃ cur, X.heap[rb']? = some (.cells cur 86 (0, 0))) := ⟨_, by rw [← hgi_] at HBX; exact blk_keep hh HBX.out⟩
  have HNB : Hid (∀ W ge e, Below X.heap.size X W → EvB w ge e → EvB W ge e ∧ rb' ≠ ge) := fun W ge e hW hE => by
    have h1 : EvB X ge e := hE.below (by rw [hgi_]; exact HBX.out)
    refine ⟨h1.below hW, ?_⟩
    rintro rfl
    obtain ⟨cu, hcu⟩ := HhX.out
    have := hcu.symm.trans h1
    simp at this
  have HLP : Hid (0 ≤ (Mc.rn t k).prog ∧ (Mc.rn t k).prog < s.progs.length) := (HGd.out.gr k HK_.out).pr
  have HNE : Hid (rb' < gi ∧ gi < V.heap.size) := ⟨by rw [← hgi_]; exact blk_lt hh, hgi⟩
  clear HI0 HB0 NR1 NB1 HRg HM HBX hgi_ hh
  generalize V.heap.size = gr at *
  clear hgi
  clear x2 x3 x4 x5 x6 x7 x8 x9
  by_cases h1 : op = 1
  · have hf := fit_r (show fitM s _ 114 a0 from by have := HRI.out; obtain ⟨_, _, ha, _⟩ := this; rw [h1] at ha; exact ha)
    have HS := TW.hide (rset k a0 a1 X HMX.out HLn.out HK_.out hf)
    have HO1 : Hid (OW = setR t k a0 a1) := by show _ = _; rw [HOw.out, if_pos h1]
    have k1 : (op == 1) = true := by simp [h1]
    clear h1 hf HOw HRI
    go_wp2_with fail
    refine HS.out.mono ?_
    rintro e_ w_ ⟨rfl, hw, hoth⟩
    have HW := TW.hide hw
    have HV : Hid (∀ ge e, EvB w ge e → EvB w_ ge e) := fun ge e hE => (HNB.out X ge e (Below.refl _ _) hE).1.keep (hoth ge (by rw [hrv]; simpa [Value.ownBlock] using (HNB.out X ge e (Below.refl _ _) hE).2))
    clear hw HS hoth
    go_wp2
    go_end0
    rw [HO1.out]
    exact ⟨rfl, HW.out, HV.out⟩
  have k1 : (op == 1) = false := by simp [h1]
  by_cases h2 : op = 2
  · have hf := fit_r (show fitM s _ 114 a0 from by have := HRI.out; obtain ⟨_, _, ha, _⟩ := this; rw [h2] at ha; exact ha)
    have hf2 := fit_r (show fitM s _ 114 a1 from by have := HRI.out; obtain ⟨_, _, _, ha, _⟩ := this; rw [h2] at ha; exact ha)
    have HS : Hid (∀ W v, Below X.heap.size X W → Calls Try.prog 54 #[.pointer (some ⟨g, 0, none⟩), .int .i64 k, .int .i64 a0, .int .i64 v] W fun e w' => e = .returned (.tuple #[]) ∧ WM o w' g s pa pc ra rc { t with rns := Mc.setR t k a0 v } m ∧ ∀ p, m.rv.ownBlock ≠ some p → w'.heap[p]? = W.heap[p]?) := fun W v hW => rset k a0 v W (HMX.out.below hW) HLn.out HK_.out hf
    have HO1 : Hid (OW = setR t k a0 (IntKind.i64.wrap (reg t k a0 + reg t k a1))) := by show _ = _; rw [HOw.out, if_neg h1, if_pos h2]
    have k2 : (op == 2) = true := by simp [h2]
    obtain ⟨n0, rfl⟩ : ∃ n0 : Nat, a0 = (n0 : Int) := ⟨a0.toNat, by omega⟩
    obtain ⟨n1, rfl⟩ : ∃ n1 : Nat, a1 = (n1 : Int) := ⟨a1.toNat, by omega⟩
    have y0 := HRX.out n0 (by omega)
    have y1 := HRX.out n1 (by omega)
    have l0 : (n0 : Int) < 8 := hf.2
    have l1 : (n1 : Int) < 8 := hf2.2
    have l2 : (0 : Int) ≤ (n0 : Int) := hf.1
    have l3 : (0 : Int) ≤ (n1 : Int) := hf2.1
    clear h1 h2 hf hf2 HOw HRI
    generalize reg t k n0 = q0 at *
    generalize reg t k n1 = q1 at *
    go_wp2
    refine wp_region_noPanic ?_
    refine RG.wp_region_L (fun Z => True) (fun Z => Z.cell? ⟨gi, 1, none⟩ = some (.int .i64 (n0 : Int)) ∧ Z.cell? ⟨gi, 2, none⟩ = some (.int .i64 (n1 : Int)) ∧ Z.cell? ⟨gr, n0, none⟩ = some (.int .i64 q0) ∧ Z.cell? ⟨gr, n1, none⟩ = some (.int .i64 q1)) [] (by kernel_rfl) ?_
    refine RG.wpL_any fun Ya hY => ?_
    have HTa : Hid (Below X.heap.size X Ya) := by rw [hY]; exact below_drewN (Below.refl _ _) 1
    have HTT : Hid (Ya.cell? ⟨gi, 1, none⟩ = some (.int .i64 (n0 : Int)) ∧ Ya.cell? ⟨gi, 2, none⟩ = some (.int .i64 (n1 : Int)) ∧ Ya.cell? ⟨gr, n0, none⟩ = some (.int .i64 q0) ∧ Ya.cell? ⟨gr, n1, none⟩ = some (.int .i64 q1)) := ⟨keepC HTa.out z1, keepC HTa.out z2, keepC HTa.out y0, keepC HTa.out y1⟩
    clear hY
    refine RG.wpL_take (fuel := 1) (a' := ?Aa) [0, 1, 2, 3, 4, 5, 6, 7, 8, 9, 10, 11, 12] (by kernel_rfl) (by kernel_rfl) (fun _ _ _ _ _ h => h) HTT.out (fun _ => trivial) ?ra ?_
    case ra =>
      refine RG.RunsIf.weak (v := ?_) (by rfl) (by rfl) (fun Z hT => ?_) ?_
      rotate_left
      · go_simp
        rfl
      simp only [Act.put, List.setIfInBounds_toArray, List.set_cons_zero, List.set_cons_succ, List.getElem_toArray, List.getElem_cons_zero, List.getElem_cons_succ]
      refine RG.RunsIf.weak (v := ?_) (by rfl) (by rfl) (fun Z hT => ?_) ?_
      rotate_left
      · go_simp
        rfl
      simp only [Act.put, List.setIfInBounds_toArray, List.set_cons_zero, List.set_cons_succ, List.getElem_toArray, List.getElem_cons_zero, List.getElem_cons_succ]
      refine RG.RunsIf.weak (v := ?_) (by rfl) (by rfl) (fun Z hT => ?_) ?_
      rotate_left
      · go_simp
        rfl
      simp only [Act.put, List.setIfInBounds_toArray, List.set_cons_zero, List.set_cons_succ, List.getElem_toArray, List.getElem_cons_zero, List.getElem_cons_succ]
      refine RG.RunsIf.weak (v := .int .i64 (n0 : Int)) (by rfl) (by rfl) (fun Z hT => ?_) ?_
      · obtain ⟨z1, z2, y0, y1⟩ := hT
        go_simp
      simp only [Act.put, List.setIfInBounds_toArray, List.set_cons_zero, List.set_cons_succ, List.getElem_toArray, List.getElem_cons_zero, List.getElem_cons_succ]
      refine RG.RunsIf.weak (v := ?_) (by rfl) (by rfl) (fun Z hT => ?_) ?_
      rotate_left
      · go_simp
        rfl
      simp only [Act.put, List.setIfInBounds_toArray, List.set_cons_zero, List.set_cons_succ, List.getElem_toArray, List.getElem_cons_zero, List.getElem_cons_succ]
      refine RG.RunsIf.weak (v := .int .i64 (n0 : Int)) (by rfl) (by rfl) (fun Z hT => ?_) ?_
      · obtain ⟨z1, z2, y0, y1⟩ := hT
        go_simp
      simp only [Act.put, List.setIfInBounds_toArray, List.set_cons_zero, List.set_cons_succ, List.getElem_toArray, List.getElem_cons_zero, List.getElem_cons_succ]
      refine RG.RunsIf.weak (v := ?_) (by rfl) (by rfl) (fun Z hT => ?_) ?_
      rotate_left
      · go_simp
        rfl
      simp only [Act.put, List.setIfInBounds_toArray, List.set_cons_zero, List.set_cons_succ, List.getElem_toArray, List.getElem_cons_zero, List.getElem_cons_succ]
      refine RG.RunsIf.weak (v := .int .i64 q0) (by rfl) (by rfl) (fun Z hT => ?_) ?_
      · obtain ⟨z1, z2, y0, y1⟩ := hT
        go_simp
      simp only [Act.put, List.setIfInBounds_toArray, List.set_cons_zero, List.set_cons_succ, List.getElem_toArray, List.getElem_cons_zero, List.getElem_cons_succ]
      refine RG.RunsIf.weak (v := ?_) (by rfl) (by rfl) (fun Z hT => ?_) ?_
      rotate_left
      · go_simp
        rfl
      simp only [Act.put, List.setIfInBounds_toArray, List.set_cons_zero, List.set_cons_succ, List.getElem_toArray, List.getElem_cons_zero, List.getElem_cons_succ]
      refine RG.RunsIf.weak (v := .int .i64 (n1 : Int)) (by rfl) (by rfl) (fun Z hT => ?_) ?_
      · obtain ⟨z1, z2, y0, y1⟩ := hT
        go_simp
      simp only [Act.put, List.setIfInBounds_toArray, List.set_cons_zero, List.set_cons_succ, List.getElem_toArray, List.getElem_cons_zero, List.getElem_cons_succ]
      refine RG.RunsIf.weak (v := ?_) (by rfl) (by rfl) (fun Z hT => ?_) ?_
      rotate_left
      · go_simp
        rfl
      simp only [Act.put, List.setIfInBounds_toArray, List.set_cons_zero, List.set_cons_succ, List.getElem_toArray, List.getElem_cons_zero, List.getElem_cons_succ]
      refine RG.RunsIf.weak (v := .int .i64 q1) (by rfl) (by rfl) (fun Z hT => ?_) ?_
      · obtain ⟨z1, z2, y0, y1⟩ := hT
        go_simp
      simp only [Act.put, List.setIfInBounds_toArray, List.set_cons_zero, List.set_cons_succ, List.getElem_toArray, List.getElem_cons_zero, List.getElem_cons_succ]
      refine RG.RunsIf.weak (v := ?_) (by rfl) (by rfl) (fun Z hT => ?_) ?_
      rotate_left
      · go_simp
        rfl
      simp only [Act.put, List.setIfInBounds_toArray, List.set_cons_zero, List.set_cons_succ, List.getElem_toArray, List.getElem_cons_zero, List.getElem_cons_succ]
      exact RG.RunsIf.nil
    refine RG.wpL_step (i := 13) (by kernel_rfl) (by rfl) (by rfl) (fun KX hK => ?_)
    have HK := TW.hide hK
    clear hK
    go_simp
    refine (HS.out _ _ HTa.out).mono ?_
    rintro e_ w_ ⟨rfl, hw, hoth⟩
    have HW := TW.hide hw
    have hcl : ∀ p j u, p ≠ rb' → Ya.cell? ⟨p, j, none⟩ = some u → w_.cell? ⟨p, j, none⟩ = some u := fun p j u hp hu => by
      have e := hoth p (by rw [hrv]; intro he; simp [Value.ownBlock] at he; omega)
      simp only [World.cell?] at hu ⊢
      rw [e]
      exact hu
    have hne := HNE.out
    have HV : Hid (∀ ge e, EvB w ge e → EvB w_ ge e) := fun ge e hE => (HNB.out Ya ge e HTa.out hE).1.keep (hoth ge (by rw [hrv]; simpa [Value.ownBlock] using (HNB.out Ya ge e HTa.out hE).2))
    refine HK.out _ _ ⟨hcl _ _ _ (by omega) HTT.out.1, hcl _ _ _ (by omega) HTT.out.2.1, hcl _ _ _ (by omega) HTT.out.2.2.1, hcl _ _ _ (by omega) HTT.out.2.2.2⟩ (fun _ => trivial) ?_
    clear hw HS hcl hne hoth HTT
    clear HK KX
    refine RG.wpL_done (by kernel_rfl) ?_ _
    refine NoPanic.normal ?_
    go_wp2
    go_end0
    rw [HO1.out]
    exact ⟨rfl, HW.out, HV.out⟩
  have k2 : (op == 2) = false := by simp [h2]
  by_cases h3 : op = 3
  · have hf := fit_r (show fitM s _ 114 a0 from by have := HRI.out; obtain ⟨_, _, ha, _⟩ := this; rw [h3] at ha; exact ha)
    have hf2 := fit_r (show fitM s _ 114 a1 from by have := HRI.out; obtain ⟨_, _, _, ha, _⟩ := this; rw [h3] at ha; exact ha)
    have hf3 := fit_p (show fitM s _ 112 a2 from by have := HRI.out; obtain ⟨_, _, _, _, ha, _⟩ := this; rw [h3] at ha; exact ha)
    have hl3 := ho.pl (Mc.rn t k).prog.toNat (by have := HLP.out; omega)
    have HO1 : Hid (OW = if reg t k a0 < reg t k a1 then setP t k (a2 - 1) else t.rns) := by show _ = _; rw [HOw.out, if_neg h1, if_neg h2, if_pos h3]
    have k3 : (op == 3) = true := by simp [h3]
    obtain ⟨n0, rfl⟩ : ∃ n0 : Nat, a0 = (n0 : Int) := ⟨a0.toNat, by omega⟩
    obtain ⟨n1, rfl⟩ : ∃ n1 : Nat, a1 = (n1 : Int) := ⟨a1.toNat, by omega⟩
    have y0 := HRX.out n0 (by omega)
    have y1 := HRX.out n1 (by omega)
    have l0 : (n0 : Int) < 8 := hf.2
    have l1 : (n1 : Int) < 8 := hf2.2
    have l2 : (0 : Int) ≤ (n0 : Int) := hf.1
    have l3 : (0 : Int) ≤ (n1 : Int) := hf2.1
    have l4 : 0 ≤ a2 := hf3.1
    have l5 : a2 ≤ 256 := by omega
    have kw : IntKind.i64.wrap (a2 - 1) = a2 - 1 := by simp [IntKind.wrap, IntKind.bits, IntKind.signed]; omega
    have HWP : Hid (∀ Y, Below X.heap.size X Y → WM o (Y.setCell ⟨rb', k * 11 + 1, none⟩ (.int .i64 (a2 - 1))) g s pa pc ra rc { t with rns := setP t k (a2 - 1) } m) := fun Y hY => (HMX.out.below hY).setRn (by rw [hrv, HN.out]) (by have := HK_.out; omega) _ _ _ (rnC_setP t k _ HK_.out) (by simp [setP])
    have HZ : Hid (∀ Y, Below X.heap.size X Y → ∃ z, Y.cell? ⟨rb', k * 11 + 1, none⟩ = some z) := fun Y hY => by
      obtain ⟨rb2, c2, q1, q2⟩ := (HMX.out.rd (by have := HK_.out; omega)).rn
      rw [r1] at q1
      injection q1 with q1
      injection q1 with q1
      injection q1 with q1
      injection q1 with q1
      subst q1
      exact ⟨_, keepC hY (q2 k HK_.out 1 (by omega))⟩
    have HFr : Hid (∀ Y, Below X.heap.size X Y → Y.frozen? ⟨rb', k * 11 + 1, none⟩ = false) := fun Y hY => by
      obtain ⟨cu, hcu⟩ := HhX.out
      simp [World.frozen?, blk_keep hcu hY]
    clear h1 h2 h3 hf hf2 hf3 hl3 HOw HRI
    generalize reg t k n0 = q0 at *
    generalize reg t k n1 = q1 at *
    by_cases hq : q0 < q1
    · rw [if_pos hq] at HO1
      go_wp2
      go_quiet (fail)
      go_wp2
      refine wp_region_noPanic ?_
      refine RG.wp_region_L (fun Z => Below X.heap.size X Z) (fun Z => True) [10] (by kernel_rfl) ?_
      refine RG.wpL_any fun Yc hY => ?_
      have HTc : Hid (Below X.heap.size X Yc) := by rw [hY]; exact below_drewN (below_drewN (Below.refl _ _) _) 1
      clear hY
      refine RG.wpL_take (fuel := 1) (a' := ?Ac) [0, 1, 2, 3, 4, 5, 6, 7, 8, 9] (by kernel_rfl) (by kernel_rfl) (fun _ _ _ _ _ h => h) trivial (fun _ => HTc.out) ?rc ?_
      case rc =>
        refine RG.RunsIf.weak (v := ?_) (by rfl) (by rfl) (fun Z hT => ?_) ?_
        rotate_left
        · go_simp
          rfl
        simp only [Act.put, List.setIfInBounds_toArray, List.set_cons_zero, List.set_cons_succ, List.getElem_toArray, List.getElem_cons_zero, List.getElem_cons_succ]
        refine RG.RunsIf.weak (v := ?_) (by rfl) (by rfl) (fun Z hT => ?_) ?_
        rotate_left
        · go_simp
          rfl
        simp only [Act.put, List.setIfInBounds_toArray, List.set_cons_zero, List.set_cons_succ, List.getElem_toArray, List.getElem_cons_zero, List.getElem_cons_succ]
        refine RG.RunsIf.weak (v := ?_) (by rfl) (by rfl) (fun Z hT => ?_) ?_
        rotate_left
        · go_simp
          rfl
        simp only [Act.put, List.setIfInBounds_toArray, List.set_cons_zero, List.set_cons_succ, List.getElem_toArray, List.getElem_cons_zero, List.getElem_cons_succ]
        refine RG.RunsIf.strong (v := .slice (some ⟨rb', 0, none⟩) n c') (by rfl) (by kernel_rfl) (by rfl) (fun Z hT hS => ?_) ?_
        · have z3 := keepC hS z3; have r1 := keepC hS r1
          go_simp
        simp only [Act.put, List.setIfInBounds_toArray, List.set_cons_zero, List.set_cons_succ, List.getElem_toArray, List.getElem_cons_zero, List.getElem_cons_succ]
        refine RG.RunsIf.weak (v := ?_) (by rfl) (by rfl) (fun Z hT => ?_) ?_
        rotate_left
        · go_simp
          rfl
        simp only [Act.put, List.setIfInBounds_toArray, List.set_cons_zero, List.set_cons_succ, List.getElem_toArray, List.getElem_cons_zero, List.getElem_cons_succ]
        refine RG.RunsIf.weak (v := ?_) (by rfl) (by rfl) (fun Z hT => ?_) ?_
        rotate_left
        · go_simp
          rfl
        simp only [Act.put, List.setIfInBounds_toArray, List.set_cons_zero, List.set_cons_succ, List.getElem_toArray, List.getElem_cons_zero, List.getElem_cons_succ]
        refine RG.RunsIf.strong (v := .int .i64 a2) (by rfl) (by kernel_rfl) (by rfl) (fun Z hT hS => ?_) ?_
        · have z3 := keepC hS z3; have r1 := keepC hS r1
          go_simp
        simp only [Act.put, List.setIfInBounds_toArray, List.set_cons_zero, List.set_cons_succ, List.getElem_toArray, List.getElem_cons_zero, List.getElem_cons_succ]
        refine RG.RunsIf.weak (v := .int .i64 (a2 - 1)) (by rfl) (by rfl) (fun Z hT => ?_) ?_
        · go_simp
          try exact kw
        simp only [Act.put, List.setIfInBounds_toArray, List.set_cons_zero, List.set_cons_succ, List.getElem_toArray, List.getElem_cons_zero, List.getElem_cons_succ]
        refine RG.RunsIf.weak (v := ?_) (by rfl) (by rfl) (fun Z hT => ?_) ?_
        rotate_left
        · go_simp
          rfl
        simp only [Act.put, List.setIfInBounds_toArray, List.set_cons_zero, List.set_cons_succ, List.getElem_toArray, List.getElem_cons_zero, List.getElem_cons_succ]
        refine RG.RunsIf.weak (v := ?_) (by rfl) (by rfl) (fun Z hT => ?_) ?_
        rotate_left
        · go_simp
          rfl
        simp only [Act.put, List.setIfInBounds_toArray, List.set_cons_zero, List.set_cons_succ, List.getElem_toArray, List.getElem_cons_zero, List.getElem_cons_succ]
        exact RG.RunsIf.nil
      obtain ⟨z, hz⟩ := HZ.out _ HTc.out
      have hfz := HFr.out _ HTc.out
      have HW := TW.hide (HWP.out _ HTc.out)
      have HV : Hid (∀ ge e, EvB w ge e → EvB (Yc.setCell ⟨rb', k * 11 + 1, none⟩ (.int .i64 (a2 - 1))) ge e) := fun ge e hE => (HNB.out Yc ge e HTc.out hE).1.setB (HNB.out Yc ge e HTc.out hE).2
      refine RG.wpL_late (i := 10) (by kernel_rfl) (by rfl) (by rfl) (by kernel_rfl) (fun KX hK => ?_)
      have HK := TW.hide hK
      clear hK
      go_simp
      refine HK.out _ _ trivial ?_
      clear HK KX hz hfz
      refine RG.wpL_done (by kernel_rfl) ?_ _
      refine NoPanic.normal ?_
      go_wp2
      go_end0
      rw [HO1.out]
      exact ⟨rfl, HW.out, HV.out⟩
    · rw [if_neg hq] at HO1
      have hq' : (q0 < q1) = False := eq_false hq
      clear hq
      go_wp2
      go_quiet (fail)
      go_wp2
      go_end0
      rw [HO1.out]
      exact ⟨rfl, HMX.out.below (below_drewN (Below.refl _ _) _), fun ge e hE => (HNB.out _ ge e (below_drewN (Below.refl _ _) _) hE).1⟩
  have k3 : (op == 3) = false := by simp [h3]
  by_cases h4 : op = 4
  · have hf3 := fit_p (show fitM s _ 112 a2 from by have := HRI.out; obtain ⟨_, _, _, _, ha, _⟩ := this; rw [h4] at ha; exact ha)
    have hl3 := ho.pl (Mc.rn t k).prog.toNat (by have := HLP.out; omega)
    have HO1 : Hid (OW = setP t k (a2 - 1)) := by show _ = _; rw [HOw.out, if_neg h1, if_neg h2, if_neg h3, if_pos h4]
    have k4 : (op == 4) = true := by simp [h4]
    have l4 : 0 ≤ a2 := hf3.1
    have l5 : a2 ≤ 256 := by omega
    have kw : IntKind.i64.wrap (a2 - 1) = a2 - 1 := by simp [IntKind.wrap, IntKind.bits, IntKind.signed]; omega
    have HWP : Hid (∀ Y, Below X.heap.size X Y → WM o (Y.setCell ⟨rb', k * 11 + 1, none⟩ (.int .i64 (a2 - 1))) g s pa pc ra rc { t with rns := setP t k (a2 - 1) } m) := fun Y hY => (HMX.out.below hY).setRn (by rw [hrv, HN.out]) (by have := HK_.out; omega) _ _ _ (rnC_setP t k _ HK_.out) (by simp [setP])
    have HZ : Hid (∀ Y, Below X.heap.size X Y → ∃ z, Y.cell? ⟨rb', k * 11 + 1, none⟩ = some z) := fun Y hY => by
      obtain ⟨rb2, c2, q1, q2⟩ := (HMX.out.rd (by have := HK_.out; omega)).rn
      rw [r1] at q1
      injection q1 with q1
      injection q1 with q1
      injection q1 with q1
      injection q1 with q1
      subst q1
      exact ⟨_, keepC hY (q2 k HK_.out 1 (by omega))⟩
    have HFr : Hid (∀ Y, Below X.heap.size X Y → Y.frozen? ⟨rb', k * 11 + 1, none⟩ = false) := fun Y hY => by
      obtain ⟨cu, hcu⟩ := HhX.out
      simp [World.frozen?, blk_keep hcu hY]
    clear h1 h2 h3 h4 hf3 hl3 HOw HRI
    go_wp2
    refine wp_region_noPanic ?_
    refine RG.wp_region_L (fun Z => Below X.heap.size X Z) (fun Z => True) [10] (by kernel_rfl) ?_
    refine RG.wpL_any fun Yb hY => ?_
    have HTb : Hid (Below X.heap.size X Yb) := by rw [hY]; exact below_drewN (Below.refl _ _) 1
    clear hY
    refine RG.wpL_take (fuel := 1) (a' := ?Ab) [0, 1, 2, 3, 4, 5, 6, 7, 8, 9] (by kernel_rfl) (by kernel_rfl) (fun _ _ _ _ _ h => h) trivial (fun _ => HTb.out) ?rb ?_
    case rb =>
      refine RG.RunsIf.weak (v := ?_) (by rfl) (by rfl) (fun Z hT => ?_) ?_
      rotate_left
      · go_simp
        rfl
      simp only [Act.put, List.setIfInBounds_toArray, List.set_cons_zero, List.set_cons_succ, List.getElem_toArray, List.getElem_cons_zero, List.getElem_cons_succ]
      refine RG.RunsIf.weak (v := ?_) (by rfl) (by rfl) (fun Z hT => ?_) ?_
      rotate_left
      · go_simp
        rfl
      simp only [Act.put, List.setIfInBounds_toArray, List.set_cons_zero, List.set_cons_succ, List.getElem_toArray, List.getElem_cons_zero, List.getElem_cons_succ]
      refine RG.RunsIf.weak (v := ?_) (by rfl) (by rfl) (fun Z hT => ?_) ?_
      rotate_left
      · go_simp
        rfl
      simp only [Act.put, List.setIfInBounds_toArray, List.set_cons_zero, List.set_cons_succ, List.getElem_toArray, List.getElem_cons_zero, List.getElem_cons_succ]
      refine RG.RunsIf.strong (v := .slice (some ⟨rb', 0, none⟩) n c') (by rfl) (by kernel_rfl) (by rfl) (fun Z hT hS => ?_) ?_
      · have z3 := keepC hS z3; have r1 := keepC hS r1
        go_simp
      simp only [Act.put, List.setIfInBounds_toArray, List.set_cons_zero, List.set_cons_succ, List.getElem_toArray, List.getElem_cons_zero, List.getElem_cons_succ]
      refine RG.RunsIf.weak (v := ?_) (by rfl) (by rfl) (fun Z hT => ?_) ?_
      rotate_left
      · go_simp
        rfl
      simp only [Act.put, List.setIfInBounds_toArray, List.set_cons_zero, List.set_cons_succ, List.getElem_toArray, List.getElem_cons_zero, List.getElem_cons_succ]
      refine RG.RunsIf.weak (v := ?_) (by rfl) (by rfl) (fun Z hT => ?_) ?_
      rotate_left
      · go_simp
        rfl
      simp only [Act.put, List.setIfInBounds_toArray, List.set_cons_zero, List.set_cons_succ, List.getElem_toArray, List.getElem_cons_zero, List.getElem_cons_succ]
      refine RG.RunsIf.strong (v := .int .i64 a2) (by rfl) (by kernel_rfl) (by rfl) (fun Z hT hS => ?_) ?_
      · have z3 := keepC hS z3; have r1 := keepC hS r1
        go_simp
      simp only [Act.put, List.setIfInBounds_toArray, List.set_cons_zero, List.set_cons_succ, List.getElem_toArray, List.getElem_cons_zero, List.getElem_cons_succ]
      refine RG.RunsIf.weak (v := .int .i64 (a2 - 1)) (by rfl) (by rfl) (fun Z hT => ?_) ?_
      · go_simp
        try exact kw
      simp only [Act.put, List.setIfInBounds_toArray, List.set_cons_zero, List.set_cons_succ, List.getElem_toArray, List.getElem_cons_zero, List.getElem_cons_succ]
      refine RG.RunsIf.weak (v := ?_) (by rfl) (by rfl) (fun Z hT => ?_) ?_
      rotate_left
      · go_simp
        rfl
      simp only [Act.put, List.setIfInBounds_toArray, List.set_cons_zero, List.set_cons_succ, List.getElem_toArray, List.getElem_cons_zero, List.getElem_cons_succ]
      refine RG.RunsIf.weak (v := ?_) (by rfl) (by rfl) (fun Z hT => ?_) ?_
      rotate_left
      · go_simp
        rfl
      simp only [Act.put, List.setIfInBounds_toArray, List.set_cons_zero, List.set_cons_succ, List.getElem_toArray, List.getElem_cons_zero, List.getElem_cons_succ]
      exact RG.RunsIf.nil
    obtain ⟨z, hz⟩ := HZ.out _ HTb.out
    have hfz := HFr.out _ HTb.out
    have HW := TW.hide (HWP.out _ HTb.out)
    have HV : Hid (∀ ge e, EvB w ge e → EvB (Yb.setCell ⟨rb', k * 11 + 1, none⟩ (.int .i64 (a2 - 1))) ge e) := fun ge e hE => (HNB.out Yb ge e HTb.out hE).1.setB (HNB.out Yb ge e HTb.out hE).2
    refine RG.wpL_late (i := 10) (by kernel_rfl) (by rfl) (by rfl) (by kernel_rfl) (fun KX hK => ?_)
    have HK := TW.hide hK
    clear hK
    go_simp
    refine HK.out _ _ trivial ?_
    clear HK KX hz hfz
    refine RG.wpL_done (by kernel_rfl) ?_ _
    refine NoPanic.normal ?_
    go_wp2
    go_end0
    rw [HO1.out]
    exact ⟨rfl, HW.out, HV.out⟩
  have k4 : (op == 4) = false := by simp [h4]
  by_cases h16 : op = 16
  · have HO1 : Hid (OW = t.rns.set k { Mc.rn t k with ended := true }) := by show _ = _; rw [HOw.out, if_neg h1, if_neg h2, if_neg h3, if_neg h4, if_pos h16]
    have k16 : (op == 16) = true := by simp [h16]
    obtain ⟨cu, hcu⟩ := HhX.out
    have HW : Hid (WM o (X.setCell ⟨rb', k * 11 + 10, none⟩ (.bool true)) g s pa pc ra rc { t with rns := t.rns.set k { Mc.rn t k with ended := true } } m) := HMX.out.setRn (by rw [hrv, HN.out]) (by have := HK_.out; omega) _ _ _ (rnC_done t k true HK_.out) (by simp)
    have HZ : Hid (∃ z, X.cell? ⟨rb', k * 11 + 10, none⟩ = some z) := by
      obtain ⟨rb2, c2, q1, q2⟩ := (HMX.out.rd (by have := HK_.out; omega)).rn
      rw [r1] at q1
      injection q1 with q1
      injection q1 with q1
      injection q1 with q1
      injection q1 with q1
      subst q1
      exact ⟨_, q2 k HK_.out 10 (by omega)⟩
    obtain ⟨z, hz⟩ := HZ.out
    have HV : Hid (∀ ge e, EvB w ge e → EvB (X.setCell ⟨rb', k * 11 + 10, none⟩ (.bool true)) ge e) := fun ge e hE => (HNB.out X ge e (Below.refl _ _) hE).1.setB (HNB.out X ge e (Below.refl _ _) hE).2
    have hfz : X.frozen? ⟨rb', k * 11 + 10, none⟩ = false := by simp [World.frozen?, hcu]
    clear h1 h2 h3 h4 h16 HOw HRI HMX hcu HRX
    go_wp2
    go_end0
    rw [HO1.out]
    exact ⟨rfl, HW.out, HV.out⟩
  have k16 : (op == 16) = false := by simp [h16]
  have HO1 : Hid (OW = t.rns) := by show _ = _; rw [HOw.out, if_neg h1, if_neg h2, if_neg h3, if_neg h4, if_neg h16]
  clear h1 h2 h3 h4 h16 HOw HRI
  go_wp2
  go_end0
  rw [HO1.out]
  exact ⟨rfl, HMX.out, fun ge e hE => (HNB.out X ge e (Below.refl _ _) hE).1⟩
end LW
end Go.Proofs.Ytghpfhoajcgghaa
