/-
  A step of the program's machine.
-/
import Derived.Test.YtheifjakpdeiaaaPgF
namespace Go.Proofs.Ytheifjakpdeiaaa
open Go.RowKit
set_option linter.unusedVariables false
set_option linter.unusedSimpArgs false
namespace LW
open Mc
/-- What a step leaves. -/
def StpQ (o : World) (g : Nat) (s : Syst) (pa : Option Addr) (pc : Nat) (t : St) (m : PV) (k : Nat) : Ending → World → Prop := fun e w' => ∃ m', SG m m' ∧ PM o w' g s pa pc (Mc.step s t k) m' ∧ ((bad s t k ≠ 0 ∧ e = .panicked (flP (bad s t k))) ∨ (bad s t k = 0 ∧ e = .returned (.tuple #[])))
theorem evinfo : (Try.prog.info? 36).map (fun i => (i.zero, i.size, i.bytes)) = some (some (.agg #[.int .i64 0, .int .i64 0, .int .i64 0, .int .i64 0, .bool false]), 5, 40) := by kernel_rfl
set_option maxRecDepth 100000 in
set_option maxHeartbeats 4000000 in
theorem pstep {o : World} {g : Nat} {s : Syst} {pa : Option Addr} {pc : Nat} {t : St} {m : PV} (k : Nat) (w : World) (h : PM o w g s pa pc t m) (ho : Mc.Ok s) (hn : Mc.Nm s) (hg : Mc.Good s t) (hk : k < t.rns.length) (hc : Mc.can s t k = true) (hel : t.evs.length < 40000) :
    Calls Try.prog 30 #[.pointer (some ⟨g, 0, none⟩), .int .i64 (k : Int)] w (StpQ o g s pa pc t m k) := by
  obtain ⟨POST, hP⟩ : ∃ P, P = StpQ o g s pa pc t m k := ⟨_, rfl⟩
  have HPo := TW.hide hP
  rw [← hP]
  clear hP
  have hen := can_going hc
  obtain ⟨rb, rcp, e1, _, xr⟩ := h.rn1 k hk
  have c1 := h.c1
  rw [e1] at c1
  have k1 : (k : Int) < (t.rns.length : Int) := by omega
  have k0 : (0 : Int) ≤ (k : Int) := by omega
  obtain ⟨ib, io, ik, p, ei, ea, hpl, x0, x1, x2, x3⟩ := h.insF hg k hk hen
  have r1_ : w.cell? ⟨m.ps.getD k 0, 1, none⟩ = some (.int .i64 (p : Int)) := by rw [← ea]; exact (h.at1 k hk).1
  have r0_ : w.cell? ⟨m.ps.getD k 0, 0, none⟩ = some (.slice (some ⟨ib, io, none⟩) (pg s (Mc.rn t k).prog).length ik) := by rw [← ei]; exact (h.at1 k hk).2
  have p1 : (p : Int) < ((pg s (Mc.rn t k).prog).length : Int) := by omega
  have p0 : (0 : Int) ≤ (p : Int) := by omega
  have HM := TW.hide h
  have HEl := TW.hide hel
  have HFin : Hid (bad s t k = 0 → ∃ r, Mc.step s t k = { mid s t k with rns := (prn s t k).set k r } ∧ rpC s m.iv r = (rpC s m.iv (Mc.rn (mid s t k) k)).setIfInBounds 1 (.int .i64 (nx s t k))) := fun hb => step_fin ho hn hg hk hc hb m.iv
  have HBad : Hid (bad s t k ≠ 0 → Mc.step s t k = { t with evs := t.evs ++ [ev s t k] }) := fun hb => by unfold Mc.step; rw [if_pos hb]
  have HKp : Hid (bad s t k = 0 → k < (prn s t k).length) := fun hb => (prn_k s t k hk hb).1
  have HDo : Hid (∀ (m2 : PV) (eb ecap : Nat) (W : World), PM o W g s pa pc { t with evs := t.evs ++ [⟨(k : Int), (ins s t k).op, 0, 0, false⟩] } m2 → m2.ev = .slice (some ⟨eb, 0, none⟩) (t.evs.length + 1) ecap → Calls Try.prog 36 #[.pointer (some ⟨g, 0, none⟩), .pointer (some ⟨m2.ps.getD k 0, 0, none⟩), .agg (insV (ins s t k)), .pointer (some ⟨eb, t.evs.length * 5, none⟩)] W (DoQ o g s pa pc t m2 k)) := fun m2 eb ecap W hW hE => pdo k eb ecap W hW ho hg hk hen hE
  unfold insV at HDo
  obtain ⟨op, hop⟩ : ∃ x, (ins s t k).op = x := ⟨_, rfl⟩
  obtain ⟨a0, ha0⟩ : ∃ x, (ins s t k).a = x := ⟨_, rfl⟩
  obtain ⟨a1, ha1⟩ : ∃ x, (ins s t k).b = x := ⟨_, rfl⟩
  obtain ⟨a2, ha2⟩ : ∃ x, (ins s t k).c = x := ⟨_, rfl⟩
  rw [hop] at x0
  rw [ha0] at x1
  rw [ha1] at x2
  rw [ha2] at x3
  rw [hop, ha0, ha1, ha2] at HDo
  obtain ⟨pk, hpk⟩ : ∃ pk, m.ps.getD k 0 = pk := ⟨_, rfl⟩
  have HPK := TW.hide hpk
  rw [hpk] at xr r1_ r0_
  clear h ho hn hg hc hen e1 ei ea hpl hop ha0 ha1 ha2 hpk hel
  generalize (pg s (Mc.rn t k).prog).length = il at *
  obtain ⟨rn_, hrn⟩ : ∃ x, t.rns.length = x := ⟨_, rfl⟩
  rw [hrn] at k1 c1
  clear hrn hk
  go_enter Try.func30, Try.ntmps30
  refine wp_seq_k fun K0 hK0 => ?_
  have HK0 := TW.hide hK0
  clear hK0
  go_wp2
  refine HK0.out _ _ ?_
  clear HK0 K0 c1 xr
  have HX : Hid (Below w.heap.size w w) := Below.refl _ _
  refine wp_seq_k fun K0 hK0 => ?_
  have HK0 := TW.hide hK0
  clear hK0
  refine wp_region_noPanic ?_
  refine RG.wp_region_L (fun Z => True) (fun Z => Below w.heap.size w Z) [] (by kernel_rfl) ?_
  refine RG.wpL_any fun Yz16 hY => ?_
  have HTz16 : Hid (Below w.heap.size w Yz16) := by rw [hY]; exact below_drewN HX.out 1
  clear hY
  refine RG.wpL_take (fuel := 2) (a' := ?Az16) [0, 1, 2, 3, 4, 5, 6, 7, 8, 9] (by kernel_rfl) (by kernel_rfl) (fun _ _ _ _ _ h => h) HTz16.out (fun _ => trivial) ?rz16 ?_
  case rz16 =>
    refine RG.RunsIf.weak (v := ?_) (by rfl) (by rfl) (fun Z hT => ?_) ?_
    rotate_left
    · go_simp
      rfl
    simp only [Act.put, List.setIfInBounds_toArray, List.set_cons_zero, List.set_cons_succ, List.getElem_toArray, List.getElem_cons_zero, List.getElem_cons_succ]
    refine RG.RunsIf.weak (v := ?_) (by rfl) (by rfl) (fun Z hT => ?_) ?_
    rotate_left
    · go_simp
      rfl
    simp only [Act.put, List.setIfInBounds_toArray, List.set_cons_zero, List.set_cons_succ, List.getElem_toArray, List.getElem_cons_zero, List.getElem_cons_succ]
    refine RG.RunsIf.weak (v := ?_) (by rfl) (by rfl) (fun Z hT => ?_) ?_
    rotate_left
    · go_simp
      rfl
    simp only [Act.put, List.setIfInBounds_toArray, List.set_cons_zero, List.set_cons_succ, List.getElem_toArray, List.getElem_cons_zero, List.getElem_cons_succ]
    refine RG.RunsIf.weak (v := .slice (some ⟨ib, io, none⟩) il ik) (by rfl) (by rfl) (fun Z hT => ?_) ?_
    · have y0 := keepC hT r0_; have y1 := keepC hT r1_; have q0 := keepC hT x0; have q1 := keepC hT x1; have q2 := keepC hT x2; have q3 := keepC hT x3
      go_simp
    simp only [Act.put, List.setIfInBounds_toArray, List.set_cons_zero, List.set_cons_succ, List.getElem_toArray, List.getElem_cons_zero, List.getElem_cons_succ]
    refine RG.RunsIf.weak (v := ?_) (by rfl) (by rfl) (fun Z hT => ?_) ?_
    rotate_left
    · go_simp
      rfl
    simp only [Act.put, List.setIfInBounds_toArray, List.set_cons_zero, List.set_cons_succ, List.getElem_toArray, List.getElem_cons_zero, List.getElem_cons_succ]
    refine RG.RunsIf.weak (v := ?_) (by rfl) (by rfl) (fun Z hT => ?_) ?_
    rotate_left
    · go_simp
      rfl
    simp only [Act.put, List.setIfInBounds_toArray, List.set_cons_zero, List.set_cons_succ, List.getElem_toArray, List.getElem_cons_zero, List.getElem_cons_succ]
    refine RG.RunsIf.weak (v := ?_) (by rfl) (by rfl) (fun Z hT => ?_) ?_
    rotate_left
    · go_simp
      rfl
    simp only [Act.put, List.setIfInBounds_toArray, List.set_cons_zero, List.set_cons_succ, List.getElem_toArray, List.getElem_cons_zero, List.getElem_cons_succ]
    refine RG.RunsIf.weak (v := .int .i64 (p : Int)) (by rfl) (by rfl) (fun Z hT => ?_) ?_
    · have y0 := keepC hT r0_; have y1 := keepC hT r1_; have q0 := keepC hT x0; have q1 := keepC hT x1; have q2 := keepC hT x2; have q3 := keepC hT x3
      go_simp
    simp only [Act.put, List.setIfInBounds_toArray, List.set_cons_zero, List.set_cons_succ, List.getElem_toArray, List.getElem_cons_zero, List.getElem_cons_succ]
    refine RG.RunsIf.weak (v := ?_) (by rfl) (by rfl) (fun Z hT => ?_) ?_
    rotate_left
    · go_simp
      rfl
    simp only [Act.put, List.setIfInBounds_toArray, List.set_cons_zero, List.set_cons_succ, List.getElem_toArray, List.getElem_cons_zero, List.getElem_cons_succ]
    refine RG.RunsIf.weak (v := .agg #[.int .i64 op, .int .i64 a0, .int .i64 a1, .int .i64 a2]) (by rfl) (by rfl) (fun Z hT => ?_) ?_
    · have y0 := keepC hT r0_; have y1 := keepC hT r1_; have q0 := keepC hT x0; have q1 := keepC hT x1; have q2 := keepC hT x2; have q3 := keepC hT x3
      go_simp
    simp only [Act.put, List.setIfInBounds_toArray, List.set_cons_zero, List.set_cons_succ, List.getElem_toArray, List.getElem_cons_zero, List.getElem_cons_succ]
    exact RG.RunsIf.nil
  have hAl : Below w.heap.size w (Yz16.alloc (.cells #[.int .i64 0, .int .i64 0, .int .i64 0, .int .i64 0] 48)) := HTz16.out.alloc HTz16.out.size _
  have hNz : (Yz16.alloc (.cells #[.int .i64 0, .int .i64 0, .int .i64 0, .int .i64 0] 48)).heap[Yz16.heap.size]? = some (.cells #[.int .i64 0, .int .i64 0, .int .i64 0, .int .i64 0] 48 (0, 0)) := heap_alloc_new _ _
  have HAl := TW.hide hAl
  have HNz := TW.hide hNz
  have hsy := HTz16.out.size
  have HMy := TW.hide (HM.out.below HTz16.out)
  have hby : Below Yz16.heap.size Yz16 ((Yz16.alloc (.cells #[.int .i64 0, .int .i64 0, .int .i64 0, .int .i64 0] 48)).setRow Yz16.heap.size #[.int .i64 op, .int .i64 a0, .int .i64 a1, .int .i64 a2]) := below_setRow ((Below.refl _ _).alloc (Nat.le_refl _) _) (Nat.le_refl _)
  have HMz := TW.hide (HMy.out.below hby)
  clear hAl hNz hby HMy
  refine RG.wpL_step (i := 10) (by kernel_rfl) (by rfl) (by rfl) (fun KX hK => ?_)
  have HK := TW.hide hK
  clear hK
  go_simp
  refine HK.out _ _ HAl.out (fun _ => trivial) ?_
  clear HK KX HTz16
  generalize Yz16.alloc _ = Ya at *
  generalize Yz16.heap.size = gi at *
  try simp only [Act.put, List.setIfInBounds_toArray, List.set_cons_zero, List.set_cons_succ, List.getElem_toArray, List.getElem_cons_zero, List.getElem_cons_succ]
  have HNi : Hid ((Ya.setRow gi #[.int .i64 op, .int .i64 a0, .int .i64 a1, .int .i64 a2]).heap[gi]? = some (.cells #[.int .i64 op, .int .i64 a0, .int .i64 a1, .int .i64 a2] 48 (0, 0))) := setRow_heap _ _ _ _ _ _ HNz.out
  have HBi : Hid (Below w.heap.size w (Ya.setRow gi #[.int .i64 op, .int .i64 a0, .int .i64 a1, .int .i64 a2])) := below_setRow HAl.out hsy
  refine RG.wpL_step (i := 11) (by kernel_rfl) (by rfl) (by rfl) (fun KX hK => ?_)
  have HK := TW.hide hK
  clear hK
  refine wp_store_row 48 _ _ (by rfl) gi #[.int .i64 op, .int .i64 a0, .int .i64 a1, .int .i64 a2] (by rfl) (by rfl) 48 _ HNz.out (by kernel_rfl) (by rfl) (by simp [Value.oneCell']) ?_
  simp only [Act.put, List.setIfInBounds_toArray, List.set_cons_zero, List.set_cons_succ, List.getElem_toArray, List.getElem_cons_zero, List.getElem_cons_succ]
  refine HK.out _ _ HBi.out (fun _ => trivial) ?_
  clear HK KX HNz HAl HBi
  refine RG.wpL_done (by kernel_rfl) ?_ _
  refine NoPanic.normal ?_
  refine HK0.out _ _ ?_
  clear HK0 K0 HM HX x0 x1 x2 x3 r0_ r1_ hsy
  generalize World.setRow _ _ _ = X at *
  obtain ⟨z0, z1, z2, z3⟩ := cellsY4 HNi.out
  obtain ⟨ea, ec, e6⟩ := own_open13 HMz.out.evs
  have c6 := HMz.out.c6
  rw [e6] at c6
  have HE6 := TW.hide e6
  clear e6
  obtain ⟨el, hel⟩ : ∃ el, t.evs.length = el := ⟨_, rfl⟩
  have HEL := TW.hide hel
  rw [hel] at c6 HEl
  clear hel
  refine wp_seq_k fun K0 hK0 => ?_
  have HK0 := TW.hide hK0
  clear hK0
  refine wp_region_noPanic ?_
  refine RG.wp_region_L (fun Z => Below X.heap.size X Z) (fun Z => True) [10, 13] (by kernel_rfl) ?_
  refine RG.wpL_any fun Yz17 hY => ?_
  have HBz17 : Hid (Below X.heap.size X Yz17) := by rw [hY]; exact below_drewN (Below.refl _ _) 1
  clear hY
  refine RG.wpL_take (fuel := 13) (a' := ?Az17w) [0] (by kernel_rfl) (by kernel_rfl) (fun _ _ _ _ _ h => h) trivial (fun _ => HBz17.out) ?rz17w ?_
  case rz17w =>
    refine RG.RunsIf.weak (v := ?_) (by rfl) (by rfl) (fun Z hT => ?_) ?_
    rotate_left
    · go_simp
      rfl
    simp only [Act.put, List.setIfInBounds_toArray, List.set_cons_zero, List.set_cons_succ, List.getElem_toArray, List.getElem_cons_zero, List.getElem_cons_succ]
    exact RG.RunsIf.nil
  refine RG.wpL_takeS (fuel := 5) (a' := ?Az17) [1, 2, 3, 4, 5, 6, 7, 8] (by kernel_rfl) (by kernel_rfl) (fun _ _ _ _ _ h => h) trivial (HBz17.out) ?rz17 ?_
  case rz17 =>
    refine RG.RunsS.one (v := ?_) (by rfl) (by rfl) (fun Z hT hS => ?_) ?_
    rotate_left
    · go_simp
      rfl
    simp only [Act.put, List.setIfInBounds_toArray, List.set_cons_zero, List.set_cons_succ, List.getElem_toArray, List.getElem_cons_zero, List.getElem_cons_succ]
    refine RG.RunsS.one (v := ?_) (by rfl) (by rfl) (fun Z hT hS => ?_) ?_
    rotate_left
    · go_simp
      rfl
    simp only [Act.put, List.setIfInBounds_toArray, List.set_cons_zero, List.set_cons_succ, List.getElem_toArray, List.getElem_cons_zero, List.getElem_cons_succ]
    refine RG.RunsS.one (v := ?_) (by rfl) (by rfl) (fun Z hT hS => ?_) ?_
    rotate_left
    · go_simp
      rfl
    simp only [Act.put, List.setIfInBounds_toArray, List.set_cons_zero, List.set_cons_succ, List.getElem_toArray, List.getElem_cons_zero, List.getElem_cons_succ]
    refine RG.RunsS.one (v := .slice ea el ec) (by rfl) (by rfl) (fun Z hT hS => ?_) ?_
    · have y0 := keepC hS z0; have y1 := keepC hS c6
      go_simp
    simp only [Act.put, List.setIfInBounds_toArray, List.set_cons_zero, List.set_cons_succ, List.getElem_toArray, List.getElem_cons_zero, List.getElem_cons_succ]
    refine RG.RunsS.one (v := ?_) (by rfl) (by rfl) (fun Z hT hS => ?_) ?_
    rotate_left
    · go_simp
      rfl
    simp only [Act.put, List.setIfInBounds_toArray, List.set_cons_zero, List.set_cons_succ, List.getElem_toArray, List.getElem_cons_zero, List.getElem_cons_succ]
    refine RG.RunsS.one (v := ?_) (by rfl) (by rfl) (fun Z hT hS => ?_) ?_
    rotate_left
    · go_simp
      rfl
    simp only [Act.put, List.setIfInBounds_toArray, List.set_cons_zero, List.set_cons_succ, List.getElem_toArray, List.getElem_cons_zero, List.getElem_cons_succ]
    refine RG.RunsS.one (v := .int .i64 op) (by rfl) (by rfl) (fun Z hT hS => ?_) ?_
    · have y0 := keepC hS z0; have y1 := keepC hS c6
      go_simp
    simp only [Act.put, List.setIfInBounds_toArray, List.set_cons_zero, List.set_cons_succ, List.getElem_toArray, List.getElem_cons_zero, List.getElem_cons_succ]
    refine RG.RunsS.one (v := .agg #[.int .i64 (k : Int), .int .i64 op, .int .i64 0, .int .i64 0, .bool false]) (by rfl) (by rfl) (fun Z hT hS => ?_) ?_
    · have y0 := keepC hS z0; have y1 := keepC hS c6
      go_simp
    simp only [Act.put, List.setIfInBounds_toArray, List.set_cons_zero, List.set_cons_succ, List.getElem_toArray, List.getElem_cons_zero, List.getElem_cons_succ]
    exact RG.RunsS.nil
  refine RG.wpL_step (i := 9) (by kernel_rfl) (by rfl) (by rfl) (fun KX hK => ?_)
  have HK := TW.hide hK
  clear hK
  go_simp
  have hAb : Below X.heap.size X (Yz17.alloc (.cells #[.int .i64 (k : Int), .int .i64 op, .int .i64 0, .int .i64 0, .bool false] 36)) := HBz17.out.alloc HBz17.out.size _
  have HAb := TW.hide hAb
  have HQc : Hid (∀ j u, ([.int .i64 (k : Int), .int .i64 op, .int .i64 0, .int .i64 0, .bool false] : List Value)[j]? = some u → (Yz17.alloc (.cells #[.int .i64 (k : Int), .int .i64 op, .int .i64 0, .int .i64 0, .bool false] 36)).cell? ((⟨Yz17.heap.size, 0, none⟩ : Addr).add j) = some u) := fun j u hj => by
    rw [Addr.add_mid, Nat.zero_add]
    exact blk_cell (heap_alloc_new Yz17 _) (by simpa using hj)
  have HMb := TW.hide (HMz.out.below hAb)
  have HIb := TW.hide (blk_keep HNi.out hAb)
  refine HK.out _ _ trivial (fun _ => HAb.out) ?_
  clear HK KX hAb HBz17 HMz HNi z0 z1 z2 z3 c6
  generalize Yz17.alloc _ = Yb at *
  generalize Yz17.heap.size = gq at *
  try simp only [Act.put, List.setIfInBounds_toArray, List.set_cons_zero, List.set_cons_succ, List.getElem_toArray, List.getElem_cons_zero, List.getElem_cons_succ]
  refine RG.wpL_late (i := 10) (by kernel_rfl) (by rfl) (by rfl) (by kernel_rfl) (fun KX hK => ?_)
  have HK := TW.hide hK
  clear hK
  obtain ⟨ie, hie, hz0, hz1, hz2⟩ := info_parts' evinfo
  have hrow := HMb.out.evs
  rw [HEL.out, HE6.out] at hrow
  rw [HEL.out] at hrow
  have hel4 := HEl.out
  refine wp_append_own _ _ _ 30 (by rfl) o.heap.size 36 ie _ 5 40 Try.underlying30 hie hz0 hz1 hz2 rfl (by decide) (.slice ea el ec) el (evC t.evs) (by rfl) hrow ⟨gq, 0, none⟩ 1 1 [.int .i64 (k : Int), .int .i64 op, .int .i64 0, .int .i64 0, .bool false] (by rfl) rfl HQc.out (by simp [Value.oneCell']) (by unfold maxLen; omega) (by omega) HMb.out.bl.size ?_
  intro v' W5 hown5 hgr5 hne5
  obtain ⟨eb, ecap, rfl⟩ : ∃ b c, v' = .slice (some ⟨b, 0, none⟩) (el + 1) c := by
    rcases hown5.2 with ⟨_, h0⟩ | ⟨b, cap, cur, e, _⟩
    · omega
    · exact ⟨b, cap, e⟩
  have hgr6 : Yb.grownBy W5 m.ev.ownBlock := by rw [HE6.out, HEL.out]; exact hgr5
  have nb : ∀ b, b < Yb.heap.size → m.ev.ownBlock ≠ some b → W5.heap[b]? = Yb.heap[b]? := fun b hb hne => hgr6.block b hb (fun e => hne e.symm)
  have hbg : W5.heap[g]? = Yb.heap[g]? := nb g (blk_lt HMb.out.blk) (own_neB HMb.out.evs HMb.out.blk (by decide))
  have hbi : W5.heap[gi]? = Yb.heap[gi]? := nb gi (blk_lt HIb.out) (own_neB HMb.out.evs HIb.out (by decide))
  have hb5 : Below o.heap.size o W5 := HMb.out.bl.grown hgr6 HMb.out.bl.size (own_blkI HMb.out.evs)
  have HM5 : Hid (PM o (W5.setCell ⟨g, 6, none⟩ (.slice (some ⟨eb, 0, none⟩) (el + 1) ecap)) g s pa pc { t with evs := t.evs ++ [⟨(k : Int), op, 0, 0, false⟩] } { m with ev := .slice (some ⟨eb, 0, none⟩) (el + 1) ecap }) := HMb.out.addEv ⟨(k : Int), op, 0, 0, false⟩ _ (by rw [HEL.out]; exact hown5) nb hb5
  have HI5 : Hid ((W5.setCell ⟨g, 6, none⟩ (.slice (some ⟨eb, 0, none⟩) (el + 1) ecap)).heap[gi]? = some (.cells #[.int .i64 op, .int .i64 a0, .int .i64 a1, .int .i64 a2] 48 (0, 0))) := blk_setN (by rw [hbi]; exact HIb.out) (by rw [hbg]; exact HMb.out.blk) (by decide)
  have cz : ∃ z, W5.cell? ⟨g, 6, none⟩ = some z := ⟨_, by rw [cell_of hbg]; exact HMb.out.c6⟩
  obtain ⟨zz, cz⟩ := cz
  have fz : W5.frozen? ⟨g, 6, none⟩ = false := by simp [World.frozen?, hbg, HMb.out.blk]
  clear hown5 hgr5 hgr6 hne5 hbg hbi hb5 nb HMb HIb HQc hrow hie hz0 hz1 hz2 hel4 HAb
  refine HK.out _ _ trivial ?_
  clear HK KX
  try simp only [Act.put, List.setIfInBounds_toArray, List.set_cons_zero, List.set_cons_succ, List.getElem_toArray, List.getElem_cons_zero, List.getElem_cons_succ]
  refine RG.wpL_take (fuel := 1) (a' := ?Az18) [11, 12] (by kernel_rfl) (by kernel_rfl) (fun _ _ _ _ _ h => h) trivial (fun h => by cases (show false = true from h)) ?rz18 ?_
  case rz18 =>
    refine RG.RunsIf.weak (v := ?_) (by rfl) (by rfl) (fun Z hT => ?_) ?_
    rotate_left
    · go_simp
      rfl
    simp only [Act.put, List.setIfInBounds_toArray, List.set_cons_zero, List.set_cons_succ, List.getElem_toArray, List.getElem_cons_zero, List.getElem_cons_succ]
    refine RG.RunsIf.weak (v := ?_) (by rfl) (by rfl) (fun Z hT => ?_) ?_
    rotate_left
    · go_simp
      rfl
    simp only [Act.put, List.setIfInBounds_toArray, List.set_cons_zero, List.set_cons_succ, List.getElem_toArray, List.getElem_cons_zero, List.getElem_cons_succ]
    exact RG.RunsIf.nil
  refine RG.wpL_late (i := 13) (by kernel_rfl) (by rfl) (by rfl) (by kernel_rfl) (fun KX hK => ?_)
  have HK := TW.hide hK
  clear hK
  go_simp
  refine HK.out _ _ trivial ?_
  clear HK KX cz fz
  refine RG.wpL_done (by kernel_rfl) ?_ _
  refine NoPanic.normal ?_
  refine HK0.out _ _ ?_
  clear HK0 K0
  generalize World.setCell _ _ _ = X2 at *
  obtain ⟨z0, z1, z2, z3⟩ := cellsY4 HI5.out
  have c6 := HM5.out.c6
  change X2.cell? _ = some (.slice (some ⟨eb, 0, none⟩) (el + 1) ecap) at c6
  have ew : IntKind.i64.wrap (((el + 1 : Nat) : Int) - 1) = (el : Int) := by rw [IntKind.wrap_i64]; have := HEl.out; omega
  have e1_ : (el : Int) < ((el + 1 : Nat) : Int) := by omega
  have e0_ : (0 : Int) ≤ (el : Int) := by omega
  have HCd : Hid (∀ W, Below X2.heap.size X2 W → Calls Try.prog 36 #[.pointer (some ⟨g, 0, none⟩), .pointer (some ⟨pk, 0, none⟩), .agg #[.int .i64 op, .int .i64 a0, .int .i64 a1, .int .i64 a2], .pointer (some ⟨eb, el * 5, none⟩)] W (DoQ o g s pa pc t { m with ev := .slice (some ⟨eb, 0, none⟩) (el + 1) ecap } k)) := fun W hW => by
    have := HDo.out { m with ev := .slice (some ⟨eb, 0, none⟩) (el + 1) ecap } eb ecap W (HM5.out.below hW) (by rw [HEL.out])
    rw [HEL.out] at this
    change Calls _ _ #[_, .pointer (some ⟨m.ps.getD k 0, 0, none⟩), _, _] _ _ at this
    rw [HPK.out] at this
    exact this
  obtain ⟨en, hen⟩ : ∃ en, el + 1 = en := ⟨_, rfl⟩
  rw [hen] at c6 ew e1_
  clear hen
  refine wp_pan (fun ch w => POST (.panicked ch) w) (fun ch a w hd hr => ⟨hd, hr⟩) ?_
  refine RG.wp_region_L (fun Z => Below X2.heap.size X2 Z) (fun Z => True) [15, 18] (by kernel_rfl) ?_
  refine RG.wpL_any fun Yz19 hY => ?_
  have HBz19 : Hid (Below X2.heap.size X2 Yz19) := by rw [hY]; exact below_drewN (Below.refl _ _) 1
  clear hY
  refine RG.wpL_take (fuel := 18) (a' := ?Az19w) [0] (by kernel_rfl) (by kernel_rfl) pan_put trivial (fun _ => HBz19.out) ?rz19w ?_
  case rz19w =>
    refine RG.RunsIf.weak (v := ?_) (by rfl) (by rfl) (fun Z hT => ?_) ?_
    rotate_left
    · go_simp
      rfl
    simp only [Act.put, List.setIfInBounds_toArray, List.set_cons_zero, List.set_cons_succ, List.getElem_toArray, List.getElem_cons_zero, List.getElem_cons_succ]
    exact RG.RunsIf.nil
  refine RG.wpL_takeS (fuel := 4) (a' := ?Az19) [1, 2, 3, 4, 5, 6, 7, 8, 9, 10, 11, 12, 13, 14] (by kernel_rfl) (by kernel_rfl) pan_put trivial (HBz19.out) ?rz19 ?_
  case rz19 =>
    refine RG.RunsS.one (v := ?_) (by rfl) (by rfl) (fun Z hT hS => ?_) ?_
    rotate_left
    · go_simp
      rfl
    simp only [Act.put, List.setIfInBounds_toArray, List.set_cons_zero, List.set_cons_succ, List.getElem_toArray, List.getElem_cons_zero, List.getElem_cons_succ]
    refine RG.RunsS.one (v := ?_) (by rfl) (by rfl) (fun Z hT hS => ?_) ?_
    rotate_left
    · go_simp
      rfl
    simp only [Act.put, List.setIfInBounds_toArray, List.set_cons_zero, List.set_cons_succ, List.getElem_toArray, List.getElem_cons_zero, List.getElem_cons_succ]
    refine RG.RunsS.one (v := .agg #[.int .i64 op, .int .i64 a0, .int .i64 a1, .int .i64 a2]) (by rfl) (by rfl) (fun Z hT hS => ?_) ?_
    · have y0 := keepC hS z0; have y1 := keepC hS z1; have y2 := keepC hS z2; have y3 := keepC hS z3; have y6 := keepC hS c6
      go_simp
    simp only [Act.put, List.setIfInBounds_toArray, List.set_cons_zero, List.set_cons_succ, List.getElem_toArray, List.getElem_cons_zero, List.getElem_cons_succ]
    refine RG.RunsS.one (v := ?_) (by rfl) (by rfl) (fun Z hT hS => ?_) ?_
    rotate_left
    · go_simp
      rfl
    simp only [Act.put, List.setIfInBounds_toArray, List.set_cons_zero, List.set_cons_succ, List.getElem_toArray, List.getElem_cons_zero, List.getElem_cons_succ]
    refine RG.RunsS.one (v := ?_) (by rfl) (by rfl) (fun Z hT hS => ?_) ?_
    rotate_left
    · go_simp
      rfl
    simp only [Act.put, List.setIfInBounds_toArray, List.set_cons_zero, List.set_cons_succ, List.getElem_toArray, List.getElem_cons_zero, List.getElem_cons_succ]
    refine RG.RunsS.one (v := ?_) (by rfl) (by rfl) (fun Z hT hS => ?_) ?_
    rotate_left
    · go_simp
      rfl
    simp only [Act.put, List.setIfInBounds_toArray, List.set_cons_zero, List.set_cons_succ, List.getElem_toArray, List.getElem_cons_zero, List.getElem_cons_succ]
    refine RG.RunsS.one (v := .slice (some ⟨eb, 0, none⟩) en ecap) (by rfl) (by rfl) (fun Z hT hS => ?_) ?_
    · have y0 := keepC hS z0; have y1 := keepC hS z1; have y2 := keepC hS z2; have y3 := keepC hS z3; have y6 := keepC hS c6
      go_simp
    simp only [Act.put, List.setIfInBounds_toArray, List.set_cons_zero, List.set_cons_succ, List.getElem_toArray, List.getElem_cons_zero, List.getElem_cons_succ]
    refine RG.RunsS.one (v := ?_) (by rfl) (by rfl) (fun Z hT hS => ?_) ?_
    rotate_left
    · go_simp
      rfl
    simp only [Act.put, List.setIfInBounds_toArray, List.set_cons_zero, List.set_cons_succ, List.getElem_toArray, List.getElem_cons_zero, List.getElem_cons_succ]
    refine RG.RunsS.one (v := ?_) (by rfl) (by rfl) (fun Z hT hS => ?_) ?_
    rotate_left
    · go_simp
      rfl
    simp only [Act.put, List.setIfInBounds_toArray, List.set_cons_zero, List.set_cons_succ, List.getElem_toArray, List.getElem_cons_zero, List.getElem_cons_succ]
    refine RG.RunsS.one (v := ?_) (by rfl) (by rfl) (fun Z hT hS => ?_) ?_
    rotate_left
    · go_simp
      rfl
    simp only [Act.put, List.setIfInBounds_toArray, List.set_cons_zero, List.set_cons_succ, List.getElem_toArray, List.getElem_cons_zero, List.getElem_cons_succ]
    refine RG.RunsS.one (v := .slice (some ⟨eb, 0, none⟩) en ecap) (by rfl) (by rfl) (fun Z hT hS => ?_) ?_
    · have y0 := keepC hS z0; have y1 := keepC hS z1; have y2 := keepC hS z2; have y3 := keepC hS z3; have y6 := keepC hS c6
      go_simp
    simp only [Act.put, List.setIfInBounds_toArray, List.set_cons_zero, List.set_cons_succ, List.getElem_toArray, List.getElem_cons_zero, List.getElem_cons_succ]
    refine RG.RunsS.one (v := ?_) (by rfl) (by rfl) (fun Z hT hS => ?_) ?_
    rotate_left
    · go_simp
      rfl
    simp only [Act.put, List.setIfInBounds_toArray, List.set_cons_zero, List.set_cons_succ, List.getElem_toArray, List.getElem_cons_zero, List.getElem_cons_succ]
    refine RG.RunsS.one (v := .int .i64 (el : Int)) (by rfl) (by rfl) (fun Z hT hS => ?_) ?_
    · have y0 := keepC hS z0; have y1 := keepC hS z1; have y2 := keepC hS z2; have y3 := keepC hS z3; have y6 := keepC hS c6
      go_simp
    simp only [Act.put, List.setIfInBounds_toArray, List.set_cons_zero, List.set_cons_succ, List.getElem_toArray, List.getElem_cons_zero, List.getElem_cons_succ]
    refine RG.RunsS.one (v := ?_) (by rfl) (by rfl) (fun Z hT hS => ?_) ?_
    rotate_left
    · go_simp
      rfl
    simp only [Act.put, List.setIfInBounds_toArray, List.set_cons_zero, List.set_cons_succ, List.getElem_toArray, List.getElem_cons_zero, List.getElem_cons_succ]
    exact RG.RunsS.nil
  refine RG.wpL_late (i := 15) (by kernel_rfl) (by rfl) (by rfl) (by kernel_rfl) (fun KX hK => ?_)
  have HK := TW.hide hK
  clear hK
  go_simp
  refine (HCd.out _ HBz19.out).mono ?_
  rintro e_ w_ ⟨m', hsg, hps, ⟨hb, rfl, hM⟩ | ⟨hb, rfl, hM⟩⟩
  · refine ⟨rfl, ?_⟩
    rw [HPo.out]
    refine ⟨m', ⟨hsg.b, hsg.x, hsg.e, hsg.y, hsg.i⟩, ?_, .inl ⟨hb, rfl⟩⟩
    rw [HBad.out hb]
    exact hM
  · have HM6 := TW.hide hM
    have HSG : Hid (SG m m') := ⟨hsg.b, hsg.x, hsg.e, hsg.y, hsg.i⟩
    have HPS : Hid (m'.ps.getD k 0 = pk) := hps.trans HPK.out
    have HB0 := TW.hide hb
    obtain ⟨r, hr1, hr2⟩ := HFin.out hb
    have hkl : k < (mid s t k).rns.length := HKp.out hb
    have hiv : m'.iv = m.iv := hsg.i
    have HM7 : Hid (PM o (w_.setCell ⟨pk, 1, none⟩ (.int .i64 (nx s t k))) g s pa pc (Mc.step s t k) m') := by
      have := HM6.out.setRn k hkl r 1 (.int .i64 (nx s t k)) (by rw [hiv]; exact hr2)
      rw [HPS.out] at this
      rw [hr1]
      exact this
    have cz := (HM6.out.at1 k hkl).1
    have fz := HM6.out.rfz k hkl 1
    rw [HPS.out] at cz fz
    obtain ⟨av, hav⟩ : ∃ av, aT s (Mc.rn (mid s t k) k) = av := ⟨_, rfl⟩
    rw [hav] at cz
    obtain ⟨nv, hnv⟩ : ∃ nv, nx s t k = nv := ⟨_, rfl⟩
    rw [hnv] at HM7 ⊢
    clear hM hsg hps hb hr1 hr2 hkl hiv hav hnv HM6 z0 z1 z2 z3 c6
    refine HK.out _ _ trivial ?_
    clear HK KX
    try simp only [Act.put, List.setIfInBounds_toArray, List.set_cons_zero, List.set_cons_succ, List.getElem_toArray, List.getElem_cons_zero, List.getElem_cons_succ]
    refine RG.wpL_take (fuel := 1) (a' := ?Az20) [16, 17] (by kernel_rfl) (by kernel_rfl) pan_put trivial (fun h => by cases (show false = true from h)) ?rz20 ?_
    case rz20 =>
      refine RG.RunsIf.weak (v := ?_) (by rfl) (by rfl) (fun Z hT => ?_) ?_
      rotate_left
      · go_simp
        rfl
      simp only [Act.put, List.setIfInBounds_toArray, List.set_cons_zero, List.set_cons_succ, List.getElem_toArray, List.getElem_cons_zero, List.getElem_cons_succ]
      refine RG.RunsIf.weak (v := ?_) (by rfl) (by rfl) (fun Z hT => ?_) ?_
      rotate_left
      · go_simp
        rfl
      simp only [Act.put, List.setIfInBounds_toArray, List.set_cons_zero, List.set_cons_succ, List.getElem_toArray, List.getElem_cons_zero, List.getElem_cons_succ]
      exact RG.RunsIf.nil
    refine RG.wpL_late (i := 18) (by kernel_rfl) (by rfl) (by rfl) (by kernel_rfl) (fun KX hK => ?_)
    have HK := TW.hide hK
    clear hK
    go_simp
    refine HK.out _ _ trivial ?_
    clear HK KX cz fz
    refine RG.wpL_done (by kernel_rfl) ?_ _
    show bodyPost _ _ _ .normal _ _
    go_end0
    rw [HPo.out]
    exact ⟨m', HSG.out, HM7.out, .inr ⟨HB0.out, rfl⟩⟩
end LW
end Go.Proofs.Ytheifjakpdeiaaa
