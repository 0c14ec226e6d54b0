/-
  How a runner is started; regions that may give up.
-/
import Derived.Test.YtheifjakpdeiaaaPgU
namespace Go.Proofs.Ytheifjakpdeiaaa
open Go.RowKit
set_option linter.unusedVariables false
set_option linter.unusedSimpArgs false
namespace LW
open Mc
theorem ptrinfo : (Try.prog.info? 72).map (fun i => (i.zero, i.size, i.bytes)) = some (some (.pointer none), 1, 8) := by kernel_rfl
theorem aT_new (s : Syst) (c : Nat) (rg : List Int) : aT s ⟨(c : Int), 0, rg, (pg s (c : Int)).isEmpty⟩ = 0 := by
  unfold aT
  dsimp only
  cases h : pg s (c : Int) with
  | nil => simp
  | cons a l => simp
/-- What start leaves. -/
def StaQ (o : World) (g : Nat) (s : Syst) (pa : Option Addr) (pc : Nat) (t : St) (m : PV) (c k : Nat) : Ending → World → Prop := fun e w' => (512 ≤ t.rns.length ∧ e = .panicked (flP 135) ∧ PM o w' g s pa pc t m) ∨ (¬ 512 ≤ t.rns.length ∧ e = .returned (.int .i64 (t.rns.length : Int)) ∧ ∃ v b, PM o w' g s pa pc { t with rns := t.rns ++ [⟨(c : Int), 0, (Mc.rn t k).regs, (pg s (c : Int)).isEmpty⟩] } { m with rv := v, ps := m.ps ++ [b] })
set_option maxRecDepth 100000 in
set_option maxHeartbeats 4000000 in
theorem pstart {o : World} {g : Nat} {s : Syst} {pa : Option Addr} {pc : Nat} {t : St} {m : PV} (c k : Nat) (w : World) (h : PM o w g s pa pc t m) (hg1 : 1 ≤ t.rns.length) (hg2 : t.rns.length ≤ 512) (hc : c < s.progs.length) (hk : k < t.rns.length) :
    Calls Try.prog 46 #[.pointer (some ⟨g, 0, none⟩), .int .i64 (c : Int), .pointer (some ⟨m.ps.getD k 0, 0, none⟩)] w (StaQ o g s pa pc t m c k) := by
  obtain ⟨rb, rcap, e1, hrbB, _⟩ := h.rn1 k hk
  obtain ⟨pb, po, hpa, hpr⟩ := h.pr
  obtain ⟨A, K0, ei, hcell, hir⟩ := hpr c hc
  subst hpa
  have hn2 := hg2
  obtain ⟨POST, hP⟩ : ∃ P, P = StaQ o g s (some ⟨pb, po, none⟩) pc t m c k := ⟨_, rfl⟩
  have HP := TW.hide hP
  rw [← hP]
  clear hP
  have HM := TW.hide h
  have HK_ := TW.hide hk
  have HPo : Hid (pb < o.heap.size) := lt_of_cell hcell
  have HCl : Hid (o.cell? ⟨pb, po + c, none⟩ = some (.slice A (s.progs.getD c []).length K0)) := by show _ = _; rw [← ei]; exact hcell
  have HNw : Hid (∀ W : World, W.heap[m.ps.getD k 0]? = some (.cells (rpC s m.iv (Mc.rn t k)) 75 (0, 0)) → W.rangeAt (m.ps.getD k 0) 2 [.int .i64 ((Mc.rn t k).regs.getD 0 0), .int .i64 ((Mc.rn t k).regs.getD 1 0), .int .i64 ((Mc.rn t k).regs.getD 2 0), .int .i64 ((Mc.rn t k).regs.getD 3 0), .int .i64 ((Mc.rn t k).regs.getD 4 0), .int .i64 ((Mc.rn t k).regs.getD 5 0), .int .i64 ((Mc.rn t k).regs.getD 6 0), .int .i64 ((Mc.rn t k).regs.getD 7 0)]) := fun W hW j v hv => by
    match j, hv with
    | 0, hv => injection hv with hv; subst hv; exact blk_cell hW rfl
    | 1, hv => injection hv with hv; subst hv; exact blk_cell hW rfl
    | 2, hv => injection hv with hv; subst hv; exact blk_cell hW rfl
    | 3, hv => injection hv with hv; subst hv; exact blk_cell hW rfl
    | 4, hv => injection hv with hv; subst hv; exact blk_cell hW rfl
    | 5, hv => injection hv with hv; subst hv; exact blk_cell hW rfl
    | 6, hv => injection hv with hv; subst hv; exact blk_cell hW rfl
    | 7, hv => injection hv with hv; subst hv; exact blk_cell hW rfl
  have HRp : Hid (rpC s m.iv ⟨(c : Int), 0, (Mc.rn t k).regs, (pg s (c : Int)).isEmpty⟩ = #[.slice A (s.progs.getD c []).length K0, .int .i64 0, .int .i64 ((Mc.rn t k).regs.getD 0 0), .int .i64 ((Mc.rn t k).regs.getD 1 0), .int .i64 ((Mc.rn t k).regs.getD 2 0), .int .i64 ((Mc.rn t k).regs.getD 3 0), .int .i64 ((Mc.rn t k).regs.getD 4 0), .int .i64 ((Mc.rn t k).regs.getD 5 0), .int .i64 ((Mc.rn t k).regs.getD 6 0), .int .i64 ((Mc.rn t k).regs.getD 7 0)]) := by
    show _ = _
    unfold rpC
    rw [aT_new]
    show #[m.iv ((c : Int).toNat), _, _, _, _, _, _, _, _, _] = _
    rw [Int.toNat_natCast, ei]
  have HRB := TW.hide (h.rnB k hk)
  have HE1 := TW.hide e1
  have c1 := h.c1
  rw [e1] at c1
  clear h e1 hpr ei hcell hir hk
  generalize (Mc.rn t k).regs.getD 0 0 = u0 at HNw HRp
  generalize (Mc.rn t k).regs.getD 1 0 = u1 at HNw HRp
  generalize (Mc.rn t k).regs.getD 2 0 = u2 at HNw HRp
  generalize (Mc.rn t k).regs.getD 3 0 = u3 at HNw HRp
  generalize (Mc.rn t k).regs.getD 4 0 = u4 at HNw HRp
  generalize (Mc.rn t k).regs.getD 5 0 = u5 at HNw HRp
  generalize (Mc.rn t k).regs.getD 6 0 = u6 at HNw HRp
  generalize (Mc.rn t k).regs.getD 7 0 = u7 at HNw HRp
  have HBk : Hid (∀ W, PM o W g s (some ⟨pb, po, none⟩) pc t m → W.heap[m.ps.getD k 0]? = some (.cells (rpC s m.iv (Mc.rn t k)) 75 (0, 0))) := fun W hW => hW.rnB k HK_.out
  obtain ⟨pk, hpk⟩ : ∃ pk, m.ps.getD k 0 = pk := ⟨_, rfl⟩
  rw [hpk] at HNw HBk ⊢
  clear hpk HRB
  obtain ⟨pl, hpl⟩ : ∃ pl, (s.progs.getD c []).length = pl := ⟨_, rfl⟩
  rw [hpl] at HRp HCl
  clear hpl
  have q1 : (c : Int) < (s.progs.length : Int) := by omega
  have q0 : (0 : Int) ≤ (c : Int) := by omega
  obtain ⟨n, hn⟩ : ∃ n, t.rns.length = n := ⟨_, rfl⟩
  have HN := TW.hide hn
  rw [hn] at c1 hn2
  obtain ⟨pn, hpn⟩ : ∃ pn, s.progs.length = pn := ⟨_, rfl⟩
  have HPN := TW.hide hpn
  rw [hpn] at q1
  clear hn hpn hc
  go_enter Try.func46, Try.ntmps46
  by_cases hN : n = 512
  · have kN : ((n : Int) == 512) = true := by simp; omega
    have HN5 := TW.hide hN
    clear hN
    go_wp2
    rw [HP.out]
    exact ⟨rfl, .inl ⟨by rw [HN.out, HN5.out]; exact Nat.le_refl _, rfl, HM.out⟩⟩
  have kN : ((n : Int) == 512) = false := by simp; omega
  have HN5 := TW.hide hN
  clear hN
  refine wp_seq_k fun K hK => ?_
  have HK := TW.hide hK
  clear hK
  go_wp2
  refine HK.out _ _ ?_
  clear HK K
  refine wp_seq_k fun K hK => ?_
  have HK := TW.hide hK
  clear hK
  go_wp2
  refine HK.out _ _ ?_
  clear HK K
  refine wp_seq_k fun K hK => ?_
  have HK := TW.hide hK
  clear hK
  go_wp2
  refine HK.out _ _ ?_
  clear HK K c1
  refine wp_seq_k fun K hK => ?_
  have HK := TW.hide hK
  clear hK
  refine wp_region_noPanic ?_
  refine RG.wp_region_L (fun Z => Z.cell? ⟨g, 1, none⟩ = some (.slice (some ⟨rb, 0, none⟩) n rcap) ∧ Z.cell? ⟨g, 0, none⟩ = some (.slice (some ⟨pb, po, none⟩) pn pc) ∧ Z.cell? ⟨pb, po + c, none⟩ = some (.slice A pl K0) ∧ Z.rangeAt pk 2 [.int .i64 u0, .int .i64 u1, .int .i64 u2, .int .i64 u3, .int .i64 u4, .int .i64 u5, .int .i64 u6, .int .i64 u7]) (fun Z => True) [22] (by kernel_rfl) ?_
  refine RG.wpL_any fun Ya hY => ?_
  have HBa : Hid (Below w.heap.size w Ya) := by rw [hY]; exact below_drewN (Below.refl _ _) 1
  clear hY
  have HMa := TW.hide (HM.out.below HBa.out)
  have HSa : Hid (Ya.cell? ⟨g, 1, none⟩ = some (.slice (some ⟨rb, 0, none⟩) n rcap) ∧ Ya.cell? ⟨g, 0, none⟩ = some (.slice (some ⟨pb, po, none⟩) pn pc) ∧ Ya.cell? ⟨pb, po + c, none⟩ = some (.slice A pl K0) ∧ Ya.rangeAt pk 2 [.int .i64 u0, .int .i64 u1, .int .i64 u2, .int .i64 u3, .int .i64 u4, .int .i64 u5, .int .i64 u6, .int .i64 u7]) := ⟨by rw [HMa.out.c1, HE1.out, HN.out], by rw [HMa.out.c0, HPN.out], keepC HMa.out.bl HCl.out, HNw.out _ (HBk.out _ HMa.out)⟩
  clear HBa
  refine RG.wpL_take (fuel := 6) (a' := ?Aa) [0, 1, 2, 3, 4, 5, 6, 7, 8, 9, 10, 11, 12, 13, 14, 15, 16] (by kernel_rfl) (by kernel_rfl) (fun _ _ _ _ _ h => h) trivial (fun _ => HSa.out) ?ra ?_
  case ra =>
    refine RG.RunsIf.weak (v := ?_) (by rfl) (by rfl) (fun Z hT => ?_) ?_
    rotate_left
    · go_simp
      rfl
    simp only [Act.put, List.setIfInBounds_toArray, List.set_cons_zero, List.set_cons_succ, List.getElem_toArray, List.getElem_cons_zero, List.getElem_cons_succ]
    refine RG.RunsIf.weak (v := ?_) (by rfl) (by rfl) (fun Z hT => ?_) ?_
    rotate_left
    · go_simp
      rfl
    simp only [Act.put, List.setIfInBounds_toArray, List.set_cons_zero, List.set_cons_succ, List.getElem_toArray, List.getElem_cons_zero, List.getElem_cons_succ]
    refine RG.RunsIf.weak (v := ?_) (by rfl) (by rfl) (fun Z hT => ?_) ?_
    rotate_left
    · go_simp
      rfl
    simp only [Act.put, List.setIfInBounds_toArray, List.set_cons_zero, List.set_cons_succ, List.getElem_toArray, List.getElem_cons_zero, List.getElem_cons_succ]
    refine RG.RunsIf.weak (v := ?_) (by rfl) (by rfl) (fun Z hT => ?_) ?_
    rotate_left
    · go_simp
      rfl
    simp only [Act.put, List.setIfInBounds_toArray, List.set_cons_zero, List.set_cons_succ, List.getElem_toArray, List.getElem_cons_zero, List.getElem_cons_succ]
    refine RG.RunsIf.strong (v := .slice (some ⟨rb, 0, none⟩) n rcap) (by rfl) (by kernel_rfl) (by rfl) (fun Z hT hS => ?_) ?_
    · obtain ⟨g1, g2, g3, g4⟩ := hS
      go_simp
    simp only [Act.put, List.setIfInBounds_toArray, List.set_cons_zero, List.set_cons_succ, List.getElem_toArray, List.getElem_cons_zero, List.getElem_cons_succ]
    refine RG.RunsIf.weak (v := ?_) (by rfl) (by rfl) (fun Z hT => ?_) ?_
    rotate_left
    · go_simp
      rfl
    simp only [Act.put, List.setIfInBounds_toArray, List.set_cons_zero, List.set_cons_succ, List.getElem_toArray, List.getElem_cons_zero, List.getElem_cons_succ]
    refine RG.RunsIf.weak (v := ?_) (by rfl) (by rfl) (fun Z hT => ?_) ?_
    rotate_left
    · go_simp
      rfl
    simp only [Act.put, List.setIfInBounds_toArray, List.set_cons_zero, List.set_cons_succ, List.getElem_toArray, List.getElem_cons_zero, List.getElem_cons_succ]
    refine RG.RunsIf.weak (v := ?_) (by rfl) (by rfl) (fun Z hT => ?_) ?_
    rotate_left
    · go_simp
      rfl
    simp only [Act.put, List.setIfInBounds_toArray, List.set_cons_zero, List.set_cons_succ, List.getElem_toArray, List.getElem_cons_zero, List.getElem_cons_succ]
    refine RG.RunsIf.strong (v := .slice (some ⟨pb, po, none⟩) pn pc) (by rfl) (by kernel_rfl) (by rfl) (fun Z hT hS => ?_) ?_
    · obtain ⟨g1, g2, g3, g4⟩ := hS
      go_simp
    simp only [Act.put, List.setIfInBounds_toArray, List.set_cons_zero, List.set_cons_succ, List.getElem_toArray, List.getElem_cons_zero, List.getElem_cons_succ]
    refine RG.RunsIf.weak (v := ?_) (by rfl) (by rfl) (fun Z hT => ?_) ?_
    rotate_left
    · go_simp
      rfl
    simp only [Act.put, List.setIfInBounds_toArray, List.set_cons_zero, List.set_cons_succ, List.getElem_toArray, List.getElem_cons_zero, List.getElem_cons_succ]
    refine RG.RunsIf.weak (v := ?_) (by rfl) (by rfl) (fun Z hT => ?_) ?_
    rotate_left
    · go_simp
      rfl
    simp only [Act.put, List.setIfInBounds_toArray, List.set_cons_zero, List.set_cons_succ, List.getElem_toArray, List.getElem_cons_zero, List.getElem_cons_succ]
    refine RG.RunsIf.strong (v := .slice A pl K0) (by rfl) (by kernel_rfl) (by rfl) (fun Z hT hS => ?_) ?_
    · obtain ⟨g1, g2, g3, g4⟩ := hS
      go_simp
    simp only [Act.put, List.setIfInBounds_toArray, List.set_cons_zero, List.set_cons_succ, List.getElem_toArray, List.getElem_cons_zero, List.getElem_cons_succ]
    refine RG.RunsIf.weak (v := ?_) (by rfl) (by rfl) (fun Z hT => ?_) ?_
    rotate_left
    · go_simp
      rfl
    simp only [Act.put, List.setIfInBounds_toArray, List.set_cons_zero, List.set_cons_succ, List.getElem_toArray, List.getElem_cons_zero, List.getElem_cons_succ]
    refine RG.RunsIf.weak (v := ?_) (by rfl) (by rfl) (fun Z hT => ?_) ?_
    rotate_left
    · go_simp
      rfl
    simp only [Act.put, List.setIfInBounds_toArray, List.set_cons_zero, List.set_cons_succ, List.getElem_toArray, List.getElem_cons_zero, List.getElem_cons_succ]
    refine RG.RunsIf.weak (v := ?_) (by rfl) (by rfl) (fun Z hT => ?_) ?_
    rotate_left
    · go_simp
      rfl
    simp only [Act.put, List.setIfInBounds_toArray, List.set_cons_zero, List.set_cons_succ, List.getElem_toArray, List.getElem_cons_zero, List.getElem_cons_succ]
    refine RG.RunsIf.strong (v := .agg #[.int .i64 u0, .int .i64 u1, .int .i64 u2, .int .i64 u3, .int .i64 u4, .int .i64 u5, .int .i64 u6, .int .i64 u7]) (by rfl) (by kernel_rfl) (by rfl) (fun Z hT hS => exec_load_mid 73 _ (by rfl) pk 2 (by rfl) [.int .i64 u0, .int .i64 u1, .int .i64 u2, .int .i64 u3, .int .i64 u4, .int .i64 u5, .int .i64 u6, .int .i64 u7] _ hS.2.2.2 Try.underlying73 rfl (by kernel_rfl)) ?_
    simp only [Act.put, List.setIfInBounds_toArray, List.set_cons_zero, List.set_cons_succ, List.getElem_toArray, List.getElem_cons_zero, List.getElem_cons_succ]
    refine RG.RunsIf.weak (v := .agg #[.slice A pl K0, .int .i64 0, .int .i64 u0, .int .i64 u1, .int .i64 u2, .int .i64 u3, .int .i64 u4, .int .i64 u5, .int .i64 u6, .int .i64 u7]) (by rfl) (by rfl) (fun Z hT => ?_) ?_
    · go_simp
    simp only [Act.put, List.setIfInBounds_toArray, List.set_cons_zero, List.set_cons_succ, List.getElem_toArray, List.getElem_cons_zero, List.getElem_cons_succ]
    exact RG.RunsIf.nil
  refine RG.wpL_step (i := 17) (by kernel_rfl) (by rfl) (by rfl) (fun KX hK => ?_)
  have HK := TW.hide hK
  clear hK
  go_simp
  have hAa : Below Ya.heap.size Ya (Ya.alloc (.cells #[.slice A pl K0, .int .i64 0, .int .i64 u0, .int .i64 u1, .int .i64 u2, .int .i64 u3, .int .i64 u4, .int .i64 u5, .int .i64 u6, .int .i64 u7] 75)) := (Below.refl _ _).alloc (Nat.le_refl _) _
  have HSb : Hid ((Ya.alloc (.cells #[.slice A pl K0, .int .i64 0, .int .i64 u0, .int .i64 u1, .int .i64 u2, .int .i64 u3, .int .i64 u4, .int .i64 u5, .int .i64 u6, .int .i64 u7] 75)).cell? ⟨g, 1, none⟩ = some (.slice (some ⟨rb, 0, none⟩) n rcap) ∧ (Ya.alloc (.cells #[.slice A pl K0, .int .i64 0, .int .i64 u0, .int .i64 u1, .int .i64 u2, .int .i64 u3, .int .i64 u4, .int .i64 u5, .int .i64 u6, .int .i64 u7] 75)).cell? ⟨g, 0, none⟩ = some (.slice (some ⟨pb, po, none⟩) pn pc) ∧ (Ya.alloc (.cells #[.slice A pl K0, .int .i64 0, .int .i64 u0, .int .i64 u1, .int .i64 u2, .int .i64 u3, .int .i64 u4, .int .i64 u5, .int .i64 u6, .int .i64 u7] 75)).cell? ⟨pb, po + c, none⟩ = some (.slice A pl K0) ∧ (Ya.alloc (.cells #[.slice A pl K0, .int .i64 0, .int .i64 u0, .int .i64 u1, .int .i64 u2, .int .i64 u3, .int .i64 u4, .int .i64 u5, .int .i64 u6, .int .i64 u7] 75)).rangeAt pk 2 [.int .i64 u0, .int .i64 u1, .int .i64 u2, .int .i64 u3, .int .i64 u4, .int .i64 u5, .int .i64 u6, .int .i64 u7]) := ⟨keepC hAa HSa.out.1, keepC hAa HSa.out.2.1, keepC hAa HSa.out.2.2.1, fun j v hv => keepC hAa (HSa.out.2.2.2 j v hv)⟩
  refine HK.out _ _ trivial (fun _ => HSb.out) ?_
  clear HK KX
  have HMb := TW.hide (HMa.out.below hAa)
  have HNb : Hid ((Ya.alloc (.cells #[.slice A pl K0, .int .i64 0, .int .i64 u0, .int .i64 u1, .int .i64 u2, .int .i64 u3, .int .i64 u4, .int .i64 u5, .int .i64 u6, .int .i64 u7] 75)).heap[Ya.heap.size]? = some (.cells #[.slice A pl K0, .int .i64 0, .int .i64 u0, .int .i64 u1, .int .i64 u2, .int .i64 u3, .int .i64 u4, .int .i64 u5, .int .i64 u6, .int .i64 u7] 75 (0, 0))) := heap_alloc_new Ya _
  have HLb : Hid (∀ j, j < t.rns.length → m.ps.getD j 0 ≠ Ya.heap.size) := fun j hj e => by have := blk_lt (HMa.out.rnB j hj); omega
  have HOb : Hid (o.heap.size ≤ Ya.heap.size) := HMa.out.bl.size
  clear HSa hAa HMa
  generalize Ya.alloc _ = Yb at *
  generalize Ya.heap.size = gr at *
  try simp only [Act.put, List.setIfInBounds_toArray, List.set_cons_zero, List.set_cons_succ, List.getElem_toArray, List.getElem_cons_zero, List.getElem_cons_succ]
  refine RG.wpL_step (i := 18) (by kernel_rfl) (by rfl) (by rfl) (fun KX hK => ?_)
  have HK := TW.hide hK
  clear hK
  go_simp
  have hAb : Below Yb.heap.size Yb (Yb.alloc (.cells #[.pointer (some ⟨gr, 0, none⟩)] 72)) := (Below.refl _ _).alloc (Nat.le_refl _) _
  have HSc : Hid ((Yb.alloc (.cells #[.pointer (some ⟨gr, 0, none⟩)] 72)).cell? ⟨g, 1, none⟩ = some (.slice (some ⟨rb, 0, none⟩) n rcap) ∧ (Yb.alloc (.cells #[.pointer (some ⟨gr, 0, none⟩)] 72)).cell? ⟨g, 0, none⟩ = some (.slice (some ⟨pb, po, none⟩) pn pc) ∧ (Yb.alloc (.cells #[.pointer (some ⟨gr, 0, none⟩)] 72)).cell? ⟨pb, po + c, none⟩ = some (.slice A pl K0) ∧ (Yb.alloc (.cells #[.pointer (some ⟨gr, 0, none⟩)] 72)).rangeAt pk 2 [.int .i64 u0, .int .i64 u1, .int .i64 u2, .int .i64 u3, .int .i64 u4, .int .i64 u5, .int .i64 u6, .int .i64 u7]) := ⟨keepC hAb HSb.out.1, keepC hAb HSb.out.2.1, keepC hAb HSb.out.2.2.1, fun j v hv => keepC hAb (HSb.out.2.2.2 j v hv)⟩
  refine HK.out _ _ trivial (fun _ => HSc.out) ?_
  clear HK KX
  have HMc := TW.hide (HMb.out.below hAb)
  have HNc := TW.hide (blk_keep HNb.out hAb)
  have HQc : Hid (∀ j u, ([.pointer (some ⟨gr, 0, none⟩)] : List Value)[j]? = some u → (Yb.alloc (.cells #[.pointer (some ⟨gr, 0, none⟩)] 72)).cell? ((⟨Yb.heap.size, 0, none⟩ : Addr).add j) = some u) := fun j u hj => by
    rw [Addr.add_mid, Nat.zero_add]
    exact blk_cell (heap_alloc_new Yb _) (by simpa using hj)
  clear HSb hAb HMb HNb
  generalize Yb.alloc _ = Yc at *
  generalize Yb.heap.size = gq at *
  try simp only [Act.put, List.setIfInBounds_toArray, List.set_cons_zero, List.set_cons_succ, List.getElem_toArray, List.getElem_cons_zero, List.getElem_cons_succ]
  refine RG.wpL_step (i := 19) (by kernel_rfl) (by rfl) (by rfl) (fun KX hK => ?_)
  have HK := TW.hide hK
  clear hK
  obtain ⟨ir, hir, hz0, hz1, hz2⟩ := info_parts' ptrinfo
  have hrow := HMc.out.rns
  rw [HE1.out, HN.out] at hrow
  refine wp_append_r _ _ _ 55 (by rfl) o.heap.size 72 ir _ 1 8 Try.underlying55 hir hz0 hz1 hz2 rfl (by decide) rb n rcap (m.ps.map ptr) (by rfl) hrow ⟨gq, 0, none⟩ 1 1 [.pointer (some ⟨gr, 0, none⟩)] (by rfl) rfl HQc.out (by simp [Value.oneCell']) (by unfold maxLen; omega) (by omega) HMc.out.bl.size ?_
  intro v' W5 hown5 hgr5 hold5
  obtain ⟨av, cv, rfl⟩ := own_open13 hown5
  have hre : m.rv.ownBlock = some rb := by rw [HE1.out]; simp [Value.ownBlock]
  have nb : ∀ b, b < Yc.heap.size → m.rv.ownBlock ≠ some b → W5.heap[b]? = Yc.heap[b]? := fun b hb hne => hgr5.block b hb (fun e => hne (by rw [hre]; exact e.symm))
  have hbg : W5.heap[g]? = Yc.heap[g]? := nb g (blk_lt HMc.out.blk) (own_neB HMc.out.rns HMc.out.blk (by decide))
  have hbr : W5.heap[gr]? = Yc.heap[gr]? := nb gr (blk_lt HNc.out) (own_neB HMc.out.rns HNc.out (by decide))
  have hbk : W5.heap[pk]? = Yc.heap[pk]? := nb pk (blk_lt (HBk.out _ HMc.out)) (own_neB HMc.out.rns (HBk.out _ HMc.out) (by decide))
  have hbp : W5.heap[pb]? = Yc.heap[pb]? := nb pb (lt_of_cell HSc.out.2.2.1) (fun e => by rw [hre] at e; injection e with e; have := HPo.out; omega)
  have hb5 : Below o.heap.size o W5 := HMc.out.bl.grown hgr5 HMc.out.bl.size (fun q hq => by injection hq with hq; omega)
  have HS5 : Hid (W5.cell? ⟨g, 1, none⟩ = some (.slice (some ⟨rb, 0, none⟩) n rcap) ∧ W5.cell? ⟨g, 0, none⟩ = some (.slice (some ⟨pb, po, none⟩) pn pc) ∧ W5.cell? ⟨pb, po + c, none⟩ = some (.slice A pl K0) ∧ W5.rangeAt pk 2 [.int .i64 u0, .int .i64 u1, .int .i64 u2, .int .i64 u3, .int .i64 u4, .int .i64 u5, .int .i64 u6, .int .i64 u7]) := ⟨by rw [cell_of hbg]; exact HSc.out.1, by rw [cell_of hbg]; exact HSc.out.2.1, by rw [cell_of hbp]; exact HSc.out.2.2.1, fun j v hv => by rw [cell_of hbk]; exact HSc.out.2.2.2 j v hv⟩
  have HM5 := TW.hide (HMc.out.addRn ⟨(c : Int), 0, (Mc.rn t k).regs, (pg s (c : Int)).isEmpty⟩ gr (.slice av (n + 1) cv) (by rw [HN.out]; exact hown5) nb hb5 (by rw [hbr, HRp.out]; exact HNc.out) HLb.out HOb.out)
  have cz := HS5.out.1
  have fz : W5.frozen? ⟨g, 1, none⟩ = false := by simp [World.frozen?, hbg, HMc.out.blk]
  clear hown5 hgr5 hold5 hbg hbr hbk hbp hb5 nb hre HMc HNc HQc HSc hrow hir hz0 hz1 hz2
  refine HK.out _ _ trivial (fun _ => HS5.out) ?_
  clear HK KX
  refine RG.wpL_take (fuel := 1) (a' := ?Ab) [20, 21] (by kernel_rfl) (by kernel_rfl) (fun _ _ _ _ _ h => h) trivial (fun _ => HS5.out) ?rb ?_
  case rb =>
    refine RG.RunsIf.weak (v := ?_) (by rfl) (by rfl) (fun Z hT => ?_) ?_
    rotate_left
    · go_simp
      rfl
    simp only [Act.put, List.setIfInBounds_toArray, List.set_cons_zero, List.set_cons_succ, List.getElem_toArray, List.getElem_cons_zero, List.getElem_cons_succ]
    refine RG.RunsIf.weak (v := ?_) (by rfl) (by rfl) (fun Z hT => ?_) ?_
    rotate_left
    · go_simp
      rfl
    simp only [Act.put, List.setIfInBounds_toArray, List.set_cons_zero, List.set_cons_succ, List.getElem_toArray, List.getElem_cons_zero, List.getElem_cons_succ]
    exact RG.RunsIf.nil
  refine RG.wpL_late (i := 22) (by kernel_rfl) (by rfl) (by rfl) (by kernel_rfl) (fun KX hK => ?_)
  have HK := TW.hide hK
  clear hK
  go_simp
  refine HK.out _ _ trivial ?_
  clear HK KX cz fz
  refine RG.wpL_done (by kernel_rfl) ?_ _
  refine NoPanic.normal ?_
  go_wp2
  try refine HK.out _ _ ?_
  go_wp2
  rw [HP.out]
  exact .inr ⟨by rw [HN.out]; have := HN5.out; omega, by rw [HN.out]; rfl, _, _, HM5.out⟩
end LW
end Go.Proofs.Ytheifjakpdeiaaa
