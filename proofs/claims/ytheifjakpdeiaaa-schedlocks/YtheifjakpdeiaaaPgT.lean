/-
  Who is ready.
-/
import Derived.Test.YtheifjakpdeiaaaPgS
namespace Go.Proofs.Ytheifjakpdeiaaa
open Go.RowKit
set_option linter.unusedVariables false
set_option linter.unusedSimpArgs false
namespace LW
open Mc
theorem own_zero {w : World} {B n s c : Nat} {t : TypeId} {a : Option Addr} {xs : List Value} (h : w.ownsRow B t s (.slice a n c) n xs) : w.ownsRow B t s (.slice a 0 c) 0 [] := by
  refine ⟨by simp, ?_⟩
  rcases h.2 with ⟨e, h0⟩ | ⟨g, cap, cur, e, h1, h2, h3, h4, h5, h6⟩
  · injection e with e1 e2 e3
    subst e1 e3
    exact .inl ⟨rfl, rfl⟩
  · injection e with e1 e2 e3
    subst e1 e3
    exact .inr ⟨g, c, cur, rfl, h1, h2, Nat.zero_le _, h4, h5, by simp⟩
/-- What is asked of the instruction that a runner is at. -/
theorem ins_can {s : Syst} {t : St} {k : Nat} (ho : Mc.Ok s) (hg : Mc.Good s t) (hk : k < t.rns.length) (he : (Mc.rn t k).ended = false) : ((Mc.ins s t k).op = 5 ∨ (Mc.ins s t k).op = 6 → 0 ≤ (Mc.ins s t k).a ∧ (Mc.ins s t k).a < t.held.length) ∧ ((Mc.ins s t k).op = 8 → 0 ≤ (Mc.ins s t k).a ∧ (Mc.ins s t k).a < t.locked.length) ∧ ((Mc.ins s t k).op = 11 → 0 ≤ (Mc.ins s t k).a ∧ (Mc.ins s t k).a < t.groups.length) := by
  have hr := ins_right ho hg hk he
  have hl := hg.hl
  have h2 := hg.ll
  have h3 := hg.gl
  refine ⟨fun h => ?_, fun h => ?_, fun h => ?_⟩
  · have hf := hr.2.2.1
    rcases h with h | h <;> (rw [h] at hf; have := fit_c hf; omega)
  · have hf := hr.2.2.1
    rw [h] at hf
    have := fit_l hf
    omega
  · have hf := hr.2.2.1
    rw [h] at hf
    have := fit_g hf
    omega
/-- The instruction that a runner is at, as it lies. -/
theorem PM.insF {o W : World} {g : Nat} {s : Syst} {pa : Option Addr} {pc : Nat} {t : St} {m : PV} (h : PM o W g s pa pc t m) (hg : Mc.Good s t) (k : Nat) (hk : k < t.rns.length) (he : (Mc.rn t k).ended = false) : ∃ (b off K p : Nat), m.iv (Mc.rn t k).prog.toNat = .slice (some ⟨b, off, none⟩) (pg s (Mc.rn t k).prog).length K ∧ aT s (Mc.rn t k) = (p : Int) ∧ p < (pg s (Mc.rn t k).prog).length ∧ W.cell? ⟨b, off + p * 4, none⟩ = some (.int .i64 (Mc.ins s t k).op) ∧ W.cell? ⟨b, off + p * 4 + 1, none⟩ = some (.int .i64 (Mc.ins s t k).a) ∧ W.cell? ⟨b, off + p * 4 + 2, none⟩ = some (.int .i64 (Mc.ins s t k).b) ∧ W.cell? ⟨b, off + p * 4 + 3, none⟩ = some (.int .i64 (Mc.ins s t k).c) := by
  obtain ⟨A, K, e, hi⟩ := h.ivF hg k hk
  have hp := (hg.gr k hk).ps he
  have ha : aT s (Mc.rn t k) = (Mc.rn t k).pos := by unfold aT; rw [he]; rfl
  obtain ⟨p, hpe⟩ : ∃ p : Nat, (Mc.rn t k).pos = (p : Int) := ⟨(Mc.rn t k).pos.toNat, by omega⟩
  rcases hi with h0 | ⟨b, off, rfl, hc⟩
  · rw [h0] at hp; simp at hp; omega
  · have hpl : p < (pg s (Mc.rn t k).prog).length := by omega
    obtain ⟨x0, x1, x2, x3⟩ := hc p hpl
    have hins : Mc.ins s t k = (pg s (Mc.rn t k).prog).getD p i0 := by unfold Mc.ins; rw [hpe, Int.toNat_natCast]
    exact ⟨b, off, K, p, e, by rw [ha, hpe], hpl, by rw [hins]; exact x0, by rw [hins]; exact x1, by rw [hins]; exact x2, by rw [hins]; exact x3⟩
/-- What ready leaves. -/
def RdyQ (o : World) (g : Nat) (s : Syst) (pa : Option Addr) (pc : Nat) (t : St) (m : PV) : Ending → World → Prop := fun e w' => ∃ v, e = .returned v ∧ PM o w' g s pa pc t { m with nv := v, nn := Mc.ready s t }
set_option maxRecDepth 100000 in
set_option maxHeartbeats 4000000 in
theorem pready {o : World} {g : Nat} {s : Syst} {pa : Option Addr} {pc : Nat} {t : St} {m : PV} (w : World) (h : PM o w g s pa pc t m) (ho : Mc.Ok s) (hg : Mc.Good s t) : Calls Try.prog 28 #[.pointer (some ⟨g, 0, none⟩)] w (RdyQ o g s pa pc t m) := by
  obtain ⟨la, lc, e7⟩ := own_open13 h.lst
  have hl0 := h.lst
  rw [e7] at hl0
  have HM0 : Hid (PM o (w.setCell ⟨g, 7, none⟩ (.slice la 0 lc)) g s pa pc t { m with nv := .slice la 0 lc, nn := [] }) := h.setNv [] (.slice la 0 lc) (own_zero hl0) (fun _ _ _ => rfl) (.inl (by rw [e7]; cases la <;> rfl)) h.bl
  have c7 := h.c7
  rw [e7] at c7
  have fz := h.fz 7
  have hc0 : (0 : Int) ≤ (lc : Int) := by omega
  have HOk := TW.hide ho
  have HG := TW.hide hg
  have hn2 := hg.r2
  have hn1 := hg.r1
  have HR : Hid (Mc.ready s t = (List.range t.rns.length).filter (Mc.can s t)) := rfl
  have HFl := TW.hide (filter_more (Mc.can s t))
  have HLn : Hid (∀ k, ((List.range k).filter (Mc.can s t)).length ≤ k) := fun k => Nat.le_trans (List.length_filter_le _ _) (by simp)
  clear h ho hg hl0 e7
  obtain ⟨POST, hP⟩ : ∃ P, P = RdyQ o g s pa pc t m := ⟨_, rfl⟩
  have HP := TW.hide hP
  rw [← hP]
  clear hP
  go_enter Try.func28, Try.ntmps28
  refine wp_seq_k fun K hK => ?_
  have HK := TW.hide hK
  clear hK
  go_wp2
  refine HK.out _ _ ?_
  clear HK K
  refine wp_seq_k fun K hK => ?_
  have HK := TW.hide hK
  clear hK
  go_wp2
  refine HK.out _ _ ?_
  clear HK K c7 fz hc0
  generalize World.setCell _ _ _ = X at *
  obtain ⟨rb, rcp, e1, _, _⟩ := HM0.out.rn1 0 (by omega)
  have c1 := HM0.out.c1
  rw [e1] at c1
  have HRB : Hid (∀ v l W, PM o W g s pa pc t { m with nv := v, nn := l } → ∀ k, k < t.rns.length → W.cell? ⟨rb, k, none⟩ = some (.pointer (some ⟨m.ps.getD k 0, 0, none⟩))) := fun v l W hW k hk => by
    obtain ⟨b_, c_, e_, _, x0⟩ := hW.rn1 k hk
    change m.rv = _ at e_
    change m.rv = _ at e1
    rw [e1] at e_
    injection e_ with e_ _ _
    injection e_ with e_
    injection e_ with e_
    subst e_
    exact x0
  clear e1
  obtain ⟨n, hn⟩ : ∃ n, t.rns.length = n := ⟨_, rfl⟩
  have HN := TW.hide hn
  rw [hn] at HR HRB hn1 hn2 c1
  clear hn
  obtain ⟨i3, hi3, hz30, hz31, hz32⟩ := info_parts' intinfo
  refine wp_seq_k fun K hK => ?_
  have HK := TW.hide hK
  clear hK
  go_wp2
  go_loopw [18] (fun i wr => ∃ (k : Nat) (la : Option Addr) (lc : Nat) (l : List Nat), k ≤ n ∧ i = .int .i64 (k : Int) ∧ Hid (PM o wr g s pa pc t { m with nv := .slice la l.length lc, nn := l }) ∧ Hid (l = (List.range k).filter (Mc.can s t))) (fun i wr => n - (intOf i).toNat)
  case atStart => exact ⟨0, la, lc, [], Nat.zero_le _, rfl, HM0, TW.hide rfl⟩
  case round =>
    clear HM0 c1
    obtain ⟨k, la2, lc2, FK, hk, rfl, HM, HFK⟩ := hrel
    by_cases hlt : k < n
    · have hk1 : (k : Int) < (n : Int) := by omega
      have hk0 : (0 : Int) ≤ (k : Int) := by omega
      have HLT := TW.hide hlt
      have hle : FK.length ≤ k := by rw [HFK.out]; exact HLn.out k
      have x9 := HRB.out _ FK wr HM.out k hlt
      have hkt : k < t.rns.length := by rw [HN.out]; exact hlt
      have HCe : Hid (∀ W, Below wr.heap.size wr W → Calls Try.prog 33 #[.pointer (some ⟨m.ps.getD k 0, 0, none⟩)] W fun e w' => e = .returned (.bool (Mc.rn t k).ended) ∧ Below W.heap.size W w') := fun W hW => HM.out.endedC HG.out k hkt W hW
      have HFt : Hid (Mc.can s t k = true → FK ++ [k] = (List.range (k + 1)).filter (Mc.can s t)) := fun hc => by rw [HFl.out, HFK.out, if_pos hc]
      have HFf : Hid (Mc.can s t k = false → FK = (List.range (k + 1)).filter (Mc.can s t)) := fun hc => by rw [HFl.out, hc, if_neg (by decide), HFK.out]
      have HX : Hid (Below wr.heap.size wr wr) := Below.refl _ _
      have HKT := TW.hide hkt
      obtain ⟨pk, hpk⟩ : ∃ pk, m.ps.getD k 0 = pk := ⟨_, rfl⟩
      rw [hpk] at x9 HCe
      have HPK := TW.hide hpk
      clear hlt hkt hpk
      refine wp_seq_k fun Kz hKz => ?_
      have HKz := TW.hide hKz
      clear hKz
      go_wp2
      refine HKz.out _ _ ?_
      clear HKz Kz
      refine wp_seq_k fun Kc hKc => ?_
      have HKc := TW.hide hKc
      clear hKc
      go_wp2
      refine HKc.out _ _ ?_
      clear HKc Kc
      refine wp_seq_k fun Kd hKd => ?_
      have HKd := TW.hide hKd
      clear hKd
      refine wp_block ?_
      refine wp_seq_k fun Ke hKe => ?_
      have HKe := TW.hide hKe
      clear hKe
      go_wp2
      refine HKe.out _ _ ?_
      clear HKe Ke x9
      refine wp_seq_k fun Kf hKf => ?_
      have HKf := TW.hide hKf
      clear hKf
      have HCk : Hid (Mc.can s t k = if (Mc.rn t k).ended then false else canI s t (Mc.ins s t k)) := can_eq s t k
      cases hen : (Mc.rn t k).ended with
      | true =>
        rw [hen] at HCe HCk
        have HFZ : Hid (FK = (List.range (k + 1)).filter (Mc.can s t)) := HFf.out HCk.out
        clear hen HFt HFf HCk
        refine wp_region_noPanic ?_
        refine RG.wp_region_L (fun Z => True) (fun Z => Below wr.heap.size wr Z) [] (by kernel_rfl) ?_
        refine RG.wpL_any fun Ya hY => ?_
        have HTa : Hid (Below wr.heap.size wr Ya) := by rw [hY]; exact below_drewN HX.out 1
        clear hY
        refine RG.wpL_take (fuel := 16) (a' := ?Aa) [0] (by kernel_rfl) (by kernel_rfl) (fun _ _ _ _ _ h => h) HTa.out (fun _ => trivial) ?ra ?_
        case ra =>
          refine RG.RunsIf.weak (v := ?_) (by rfl) (by rfl) (fun Z hT => ?_) ?_
          rotate_left
          · go_simp
            rfl
          simp only [Act.put, List.setIfInBounds_toArray, List.set_cons_zero, List.set_cons_succ, List.getElem_toArray, List.getElem_cons_zero, List.getElem_cons_succ]
          exact RG.RunsIf.nil
        refine RG.wpL_step (i := 1) (by kernel_rfl) (by rfl) (by rfl) (fun KX hK => ?_)
        have HK := TW.hide hK
        clear hK
        go_simp
        refine (HCe.out _ HTa.out).mono ?_
        rintro e_W1 W1 ⟨rfl, hb⟩
        have HT1 : Hid (Below wr.heap.size wr W1) := HTa.out.trans (hb.mono HTa.out.size)
        refine HK.out _ _ HT1.out (fun _ => trivial) ?_
        clear HK KX hb
        try simp only [Act.put, List.setIfInBounds_toArray, List.set_cons_zero, List.set_cons_succ, List.getElem_toArray, List.getElem_cons_zero, List.getElem_cons_succ]
        refine RG.wpL_take (fuel := 0) (a' := ?Ab) [2, 3, 4, 5, 6, 7, 8, 9, 10, 11, 12, 13, 14, 15, 16] (by kernel_rfl) (by kernel_rfl) (fun _ _ _ _ _ h => h) HT1.out (fun _ => trivial) ?rb ?_
        case rb =>
          refine RG.RunsIf.weak (v := ?_) (by rfl) (by rfl) (fun Z hT => ?_) ?_
          rotate_left
          · go_simp
            rfl
          simp only [Act.put, List.setIfInBounds_toArray, List.set_cons_zero, List.set_cons_succ, List.getElem_toArray, List.getElem_cons_zero, List.getElem_cons_succ]
          refine RG.RunsIf.weak (v := ?_) (by rfl) (by rfl) (fun Z hT => ?_) ?_
          rotate_left
          · go_simp
            rfl
          simp only [Act.put, List.setIfInBounds_toArray, List.set_cons_zero, List.set_cons_succ, List.getElem_toArray, List.getElem_cons_zero, List.getElem_cons_succ]
          refine RG.RunsIf.skip (by rfl) (by rfl) ?_
          simp only [Act.put, List.setIfInBounds_toArray, List.set_cons_zero, List.set_cons_succ, List.getElem_toArray, List.getElem_cons_zero, List.getElem_cons_succ]
          refine RG.RunsIf.skip (by rfl) (by rfl) ?_
          simp only [Act.put, List.setIfInBounds_toArray, List.set_cons_zero, List.set_cons_succ, List.getElem_toArray, List.getElem_cons_zero, List.getElem_cons_succ]
          refine RG.RunsIf.skip (by rfl) (by rfl) ?_
          simp only [Act.put, List.setIfInBounds_toArray, List.set_cons_zero, List.set_cons_succ, List.getElem_toArray, List.getElem_cons_zero, List.getElem_cons_succ]
          refine RG.RunsIf.skip (by rfl) (by rfl) ?_
          simp only [Act.put, List.setIfInBounds_toArray, List.set_cons_zero, List.set_cons_succ, List.getElem_toArray, List.getElem_cons_zero, List.getElem_cons_succ]
          refine RG.RunsIf.skip (by rfl) (by rfl) ?_
          simp only [Act.put, List.setIfInBounds_toArray, List.set_cons_zero, List.set_cons_succ, List.getElem_toArray, List.getElem_cons_zero, List.getElem_cons_succ]
          refine RG.RunsIf.skip (by rfl) (by rfl) ?_
          simp only [Act.put, List.setIfInBounds_toArray, List.set_cons_zero, List.set_cons_succ, List.getElem_toArray, List.getElem_cons_zero, List.getElem_cons_succ]
          refine RG.RunsIf.skip (by rfl) (by rfl) ?_
          simp only [Act.put, List.setIfInBounds_toArray, List.set_cons_zero, List.set_cons_succ, List.getElem_toArray, List.getElem_cons_zero, List.getElem_cons_succ]
          refine RG.RunsIf.skip (by rfl) (by rfl) ?_
          simp only [Act.put, List.setIfInBounds_toArray, List.set_cons_zero, List.set_cons_succ, List.getElem_toArray, List.getElem_cons_zero, List.getElem_cons_succ]
          refine RG.RunsIf.skip (by rfl) (by rfl) ?_
          simp only [Act.put, List.setIfInBounds_toArray, List.set_cons_zero, List.set_cons_succ, List.getElem_toArray, List.getElem_cons_zero, List.getElem_cons_succ]
          refine RG.RunsIf.skip (by rfl) (by rfl) ?_
          simp only [Act.put, List.setIfInBounds_toArray, List.set_cons_zero, List.set_cons_succ, List.getElem_toArray, List.getElem_cons_zero, List.getElem_cons_succ]
          refine RG.RunsIf.skip (by rfl) (by rfl) ?_
          simp only [Act.put, List.setIfInBounds_toArray, List.set_cons_zero, List.set_cons_succ, List.getElem_toArray, List.getElem_cons_zero, List.getElem_cons_succ]
          refine RG.RunsIf.skip (by rfl) (by rfl) ?_
          simp only [Act.put, List.setIfInBounds_toArray, List.set_cons_zero, List.set_cons_succ, List.getElem_toArray, List.getElem_cons_zero, List.getElem_cons_succ]
          refine RG.RunsIf.weak (v := ?_) (by rfl) (by rfl) (fun Z hT => ?_) ?_
          rotate_left
          · go_simp
            rfl
          simp only [Act.put, List.setIfInBounds_toArray, List.set_cons_zero, List.set_cons_succ, List.getElem_toArray, List.getElem_cons_zero, List.getElem_cons_succ]
          exact RG.RunsIf.nil
        refine RG.wpL_done (by kernel_rfl) ?_ _
        refine NoPanic.normal ?_
        have HM1 := TW.hide (HM.out.below HT1.out)
        refine HKf.out _ _ ?_
        clear HKf Kf
        go_wp2
        refine HKd.out _ _ ?_
        go_wp2
        go_roundw
        case rel => exact ⟨k + 1, _, _, _, HLT.out, by go_num, HM1, HFZ⟩
        case measure => simp [intOf]; have := HLT.out; omega
      | false =>
        rw [hen] at HCe HCk
        obtain ⟨ib, io, ik, p, ei, ea, hpl, x0, x1, x2, x3⟩ := HM.out.insF HG.out k HKT.out hen
        have r1_ : wr.cell? ⟨pk, 1, none⟩ = some (.int .i64 (p : Int)) := by rw [← HPK.out, ← ea]; exact (HM.out.at1 k HKT.out).1
        have r0_ : wr.cell? ⟨pk, 0, none⟩ = some (.slice (some ⟨ib, io, none⟩) (pg s (Mc.rn t k).prog).length ik) := by rw [← HPK.out, ← ei]; exact (HM.out.at1 k HKT.out).2
        obtain ⟨q5, q8, q11⟩ := ins_can HOk.out HG.out HKT.out hen
        have HCc : Hid (∀ W, Below wr.heap.size wr W → Calls Try.prog 34 #[.pointer (some ⟨g, 0, none⟩), .agg #[.int .i64 (Mc.ins s t k).op, .int .i64 (Mc.ins s t k).a, .int .i64 (Mc.ins s t k).b, .int .i64 (Mc.ins s t k).c]] W fun e w' => e = .returned (.bool (canI s t (Mc.ins s t k))) ∧ Below W.heap.size W w') := fun W hW => pcan _ _ _ _ W (HM.out.below hW) q5 q8 q11
        clear hen ei ea q5 q8 q11
        have p1 : (p : Int) < ((pg s (Mc.rn t k).prog).length : Int) := by omega
        have p0 : (0 : Int) ≤ (p : Int) := by omega
        generalize (pg s (Mc.rn t k).prog).length = il at *
        generalize (Mc.ins s t k).op = op at *
        generalize (Mc.ins s t k).a = a0 at *
        generalize (Mc.ins s t k).b = a1 at *
        generalize (Mc.ins s t k).c = a2 at *
        obtain ⟨cb, hcb⟩ : ∃ cb, canI s t (Mc.ins s t k) = cb := ⟨_, rfl⟩
        rw [hcb] at HCc HCk
        clear hcb
        refine wp_region_noPanic ?_
        refine RG.wp_region_L (fun Z => True) (fun Z => Below wr.heap.size wr Z) [] (by kernel_rfl) ?_
        refine RG.wpL_any fun Yd hY => ?_
        have HTd : Hid (Below wr.heap.size wr Yd) := by rw [hY]; exact below_drewN HX.out 1
        clear hY
        refine RG.wpL_take (fuel := 16) (a' := ?Ad) [0] (by kernel_rfl) (by kernel_rfl) (fun _ _ _ _ _ h => h) HTd.out (fun _ => trivial) ?rd ?_
        case rd =>
          refine RG.RunsIf.weak (v := ?_) (by rfl) (by rfl) (fun Z hT => ?_) ?_
          rotate_left
          · go_simp
            rfl
          simp only [Act.put, List.setIfInBounds_toArray, List.set_cons_zero, List.set_cons_succ, List.getElem_toArray, List.getElem_cons_zero, List.getElem_cons_succ]
          exact RG.RunsIf.nil
        refine RG.wpL_step (i := 1) (by kernel_rfl) (by rfl) (by rfl) (fun KX hK => ?_)
        have HK := TW.hide hK
        clear hK
        go_simp
        refine (HCe.out _ HTd.out).mono ?_
        rintro e_W1 W1 ⟨rfl, hb⟩
        have HT1 : Hid (Below wr.heap.size wr W1) := HTd.out.trans (hb.mono HTd.out.size)
        refine HK.out _ _ HT1.out (fun _ => trivial) ?_
        clear HK KX hb
        try simp only [Act.put, List.setIfInBounds_toArray, List.set_cons_zero, List.set_cons_succ, List.getElem_toArray, List.getElem_cons_zero, List.getElem_cons_succ]
        refine RG.wpL_take (fuel := 2) (a' := ?Ae) [2, 3, 4, 5, 6, 7, 8, 9, 10, 11, 12, 13, 14] (by kernel_rfl) (by kernel_rfl) (fun _ _ _ _ _ h => h) HT1.out (fun _ => trivial) ?re ?_
        case re =>
          refine RG.RunsIf.weak (v := ?_) (by rfl) (by rfl) (fun Z hT => ?_) ?_
          rotate_left
          · go_simp
            rfl
          simp only [Act.put, List.setIfInBounds_toArray, List.set_cons_zero, List.set_cons_succ, List.getElem_toArray, List.getElem_cons_zero, List.getElem_cons_succ]
          refine RG.RunsIf.weak (v := ?_) (by rfl) (by rfl) (fun Z hT => ?_) ?_
          rotate_left
          · go_simp
            rfl
          simp only [Act.put, List.setIfInBounds_toArray, List.set_cons_zero, List.set_cons_succ, List.getElem_toArray, List.getElem_cons_zero, List.getElem_cons_succ]
          refine RG.RunsIf.weak (v := ?_) (by rfl) (by rfl) (fun Z hT => ?_) ?_
          rotate_left
          · go_simp
            rfl
          simp only [Act.put, List.setIfInBounds_toArray, List.set_cons_zero, List.set_cons_succ, List.getElem_toArray, List.getElem_cons_zero, List.getElem_cons_succ]
          refine RG.RunsIf.weak (v := ?_) (by rfl) (by rfl) (fun Z hT => ?_) ?_
          rotate_left
          · go_simp
            rfl
          simp only [Act.put, List.setIfInBounds_toArray, List.set_cons_zero, List.set_cons_succ, List.getElem_toArray, List.getElem_cons_zero, List.getElem_cons_succ]
          refine RG.RunsIf.weak (v := ?_) (by rfl) (by rfl) (fun Z hT => ?_) ?_
          rotate_left
          · go_simp
            rfl
          simp only [Act.put, List.setIfInBounds_toArray, List.set_cons_zero, List.set_cons_succ, List.getElem_toArray, List.getElem_cons_zero, List.getElem_cons_succ]
          refine RG.RunsIf.weak (v := ?_) (by rfl) (by rfl) (fun Z hT => ?_) ?_
          rotate_left
          · go_simp
            rfl
          simp only [Act.put, List.setIfInBounds_toArray, List.set_cons_zero, List.set_cons_succ, List.getElem_toArray, List.getElem_cons_zero, List.getElem_cons_succ]
          refine RG.RunsIf.weak (v := .slice (some ⟨ib, io, none⟩) il ik) (by rfl) (by rfl) (fun Z hT => ?_) ?_
          · have y0 := keepC hT r0_; have y1 := keepC hT r1_; have q0 := keepC hT x0; have q1 := keepC hT x1; have q2 := keepC hT x2; have q3 := keepC hT x3
            go_simp
          simp only [Act.put, List.setIfInBounds_toArray, List.set_cons_zero, List.set_cons_succ, List.getElem_toArray, List.getElem_cons_zero, List.getElem_cons_succ]
          refine RG.RunsIf.weak (v := ?_) (by rfl) (by rfl) (fun Z hT => ?_) ?_
          rotate_left
          · go_simp
            rfl
          simp only [Act.put, List.setIfInBounds_toArray, List.set_cons_zero, List.set_cons_succ, List.getElem_toArray, List.getElem_cons_zero, List.getElem_cons_succ]
          refine RG.RunsIf.weak (v := ?_) (by rfl) (by rfl) (fun Z hT => ?_) ?_
          rotate_left
          · go_simp
            rfl
          simp only [Act.put, List.setIfInBounds_toArray, List.set_cons_zero, List.set_cons_succ, List.getElem_toArray, List.getElem_cons_zero, List.getElem_cons_succ]
          refine RG.RunsIf.weak (v := ?_) (by rfl) (by rfl) (fun Z hT => ?_) ?_
          rotate_left
          · go_simp
            rfl
          simp only [Act.put, List.setIfInBounds_toArray, List.set_cons_zero, List.set_cons_succ, List.getElem_toArray, List.getElem_cons_zero, List.getElem_cons_succ]
          refine RG.RunsIf.weak (v := .int .i64 (p : Int)) (by rfl) (by rfl) (fun Z hT => ?_) ?_
          · have y0 := keepC hT r0_; have y1 := keepC hT r1_; have q0 := keepC hT x0; have q1 := keepC hT x1; have q2 := keepC hT x2; have q3 := keepC hT x3
            go_simp
          simp only [Act.put, List.setIfInBounds_toArray, List.set_cons_zero, List.set_cons_succ, List.getElem_toArray, List.getElem_cons_zero, List.getElem_cons_succ]
          refine RG.RunsIf.weak (v := ?_) (by rfl) (by rfl) (fun Z hT => ?_) ?_
          rotate_left
          · go_simp
            rfl
          simp only [Act.put, List.setIfInBounds_toArray, List.set_cons_zero, List.set_cons_succ, List.getElem_toArray, List.getElem_cons_zero, List.getElem_cons_succ]
          refine RG.RunsIf.weak (v := .agg #[.int .i64 op, .int .i64 a0, .int .i64 a1, .int .i64 a2]) (by rfl) (by rfl) (fun Z hT => ?_) ?_
          · have y0 := keepC hT r0_; have y1 := keepC hT r1_; have q0 := keepC hT x0; have q1 := keepC hT x1; have q2 := keepC hT x2; have q3 := keepC hT x3
            go_simp
          simp only [Act.put, List.setIfInBounds_toArray, List.set_cons_zero, List.set_cons_succ, List.getElem_toArray, List.getElem_cons_zero, List.getElem_cons_succ]
          exact RG.RunsIf.nil
        refine RG.wpL_stepw (i := 15) (by kernel_rfl) (by rfl) (by rfl) (fun KX hK => ?_)
        have HK := TW.hide hK
        clear hK
        go_simp
        refine (HCc.out _ HT1.out).mono ?_
        rintro e_W2 W2 ⟨rfl, hb⟩
        have HT2 : Hid (Below wr.heap.size wr W2) := HT1.out.trans (hb.mono HT1.out.size)
        refine HK.out _ _ HT2.out (fun _ => trivial) ?_
        clear HK KX hb
        try simp only [Act.put, List.setIfInBounds_toArray, List.set_cons_zero, List.set_cons_succ, List.getElem_toArray, List.getElem_cons_zero, List.getElem_cons_succ]
        refine RG.wpL_take (fuel := 0) (a' := ?Af) [16] (by kernel_rfl) (by kernel_rfl) (fun _ _ _ _ _ h => h) HT2.out (fun _ => trivial) ?rf ?_
        case rf =>
          refine RG.RunsIf.weak (v := ?_) (by rfl) (by rfl) (fun Z hT => ?_) ?_
          rotate_left
          · go_simp
            rfl
          simp only [Act.put, List.setIfInBounds_toArray, List.set_cons_zero, List.set_cons_succ, List.getElem_toArray, List.getElem_cons_zero, List.getElem_cons_succ]
          exact RG.RunsIf.nil
        refine RG.wpL_done (by kernel_rfl) ?_ _
        refine NoPanic.normal ?_
        have HM1 := TW.hide (HM.out.below HT2.out)
        refine HKf.out _ _ ?_
        clear HKf Kf x0 x1 x2 x3 r0_ r1_
        cases cb with
        | true =>
          have HFZ0 : Hid (FK ++ [k] = (List.range (k + 1)).filter (Mc.can s t)) := HFt.out HCk.out
          clear HFt HFf HCk
          have c7 : W2.cell? ⟨g, 7, none⟩ = some (.slice la2 FK.length lc2) := HM1.out.c7
          have HMa := TW.hide (HM1.out.below ((Below.refl _ _).alloc (Nat.le_refl _) (.cells #[.int .i64 (k : Int)] 3)))
          have HF5 : Hid (∀ v5 w5, w5.ownsRow o.heap.size 3 1 v5 (FK.length + 1) (natV FK ++ [.int .i64 (k : Int)]) → (W2.alloc (.cells #[.int .i64 (k : Int)] 3)).grownBy w5 (Value.slice la2 FK.length lc2).ownBlock → (v5.ownBlock = (Value.slice la2 FK.length lc2).ownBlock ∨ v5.ownBlock = some (W2.alloc (.cells #[.int .i64 (k : Int)] 3)).heap.size) → PM o (w5.setCell ⟨g, 7, none⟩ v5) g s pa pc t { m with nv := v5, nn := FK ++ [k] } ∧ w5.frozen? ⟨g, 7, none⟩ = false ∧ ∃ z, w5.cell? ⟨g, 7, none⟩ = some z) := fun v5 w5 h1 h2 h3 => by
            have hb5 : Below o.heap.size o w5 := HMa.out.bl.grown h2 HMa.out.bl.size (own_blkI HMa.out.lst)
            have hgk : w5.heap[g]? = (W2.alloc (.cells #[.int .i64 (k : Int)] 3)).heap[g]? := h2.block g (blk_lt HMa.out.blk) (fun e => own_neB HMa.out.lst HMa.out.blk (by decide) e.symm)
            refine ⟨?_, by rw [World.frozen?_of_block hgk]; exact HMa.out.fz 7, _, by rw [World.cell?_of_block hgk]; exact HMa.out.c7⟩
            refine HMa.out.setNv (FK ++ [k]) v5 ?_ (fun b hb hne => h2.block b hb (fun e => hne e.symm)) ?_ hb5
            · rw [List.length_append, natV, List.map_append]; exact h1
            · rcases h3 with h3 | h3
              · exact .inl h3
              · exact .inr ⟨_, h3, Nat.le_refl _⟩
          have hown0 : (W2.alloc (.cells #[.int .i64 (k : Int)] 3)).ownsRow o.heap.size 3 1 (.slice la2 FK.length lc2) FK.length (natV FK) := HMa.out.lst
          have hbz : o.heap.size ≤ (W2.alloc (.cells #[.int .i64 (k : Int)] 3)).heap.size := HMa.out.bl.size
          have HOw := TW.hide hown0
          obtain ⟨FN, hFN⟩ : ∃ FN, FN = FK ++ [k] := ⟨_, rfl⟩
          have HFZ : Hid (FN = (List.range (k + 1)).filter (Mc.can s t)) := by show _ = _; rw [hFN]; exact HFZ0.out
          clear HFZ0
          have HF6 : Hid (∀ v5 w5, w5.ownsRow o.heap.size 3 1 v5 (FK.length + 1) (natV FK ++ [.int .i64 (k : Int)]) → (W2.alloc (.cells #[.int .i64 (k : Int)] 3)).grownBy w5 (Value.slice la2 FK.length lc2).ownBlock → (v5.ownBlock = (Value.slice la2 FK.length lc2).ownBlock ∨ v5.ownBlock = some (W2.alloc (.cells #[.int .i64 (k : Int)] 3)).heap.size) → ∃ va vc, v5 = .slice va (FK.length + 1) vc ∧ PM o (w5.setCell ⟨g, 7, none⟩ v5) g s pa pc t { m with nv := .slice va FN.length vc, nn := FN } ∧ w5.frozen? ⟨g, 7, none⟩ = false ∧ ∃ z, w5.cell? ⟨g, 7, none⟩ = some z) := fun v5 w5 h1 h2 h3 => by
            obtain ⟨va, vc, e⟩ := own_open13 h1
            obtain ⟨h4, h5, h6⟩ := HF5.out v5 w5 h1 h2 h3
            refine ⟨va, vc, e, ?_, h5, h6⟩
            rw [e] at h4 ⊢
            rw [hFN, List.length_append, List.length_singleton]
            exact h4
          clear hown0 HF5 hFN
          go_wp2_with (at_builtin; refine wpList_append_own_at _ rfl _ _ 23 rfl o.heap.size 3 i3 (.int .i64 0) 1 8 Try.underlying23 hi3 hz30 hz31 hz32 rfl (by decide) _ FK.length (natV FK) rfl HOw.out ⟨W2.heap.size, 0, none⟩ 1 1 [.int .i64 (k : Int)] rfl rfl (cell_one_new _ _ _) (by simp [Value.oneCell']) (by unfold maxLen; omega) (by omega) hbz ?_; (intro v5 w5 h51 h52 _ h53); obtain ⟨va, vc, rfl, h54, h55, z5, h56⟩ := HF6.out v5 w5 h51 h52 h53; have HM5 := TW.hide h54; clear h51 h52 h53 h54 HF6)
          refine HKd.out _ _ ?_
          clear h55 h56
          generalize World.setCell _ _ _ = X5 at *
          go_wp2
          go_roundw
          case rel => exact ⟨k + 1, va, vc, FN, HLT.out, by go_num, HM5, HFZ⟩
          case measure => simp [intOf]; have := HLT.out; omega
        | false =>
          have HFZ : Hid (FK = (List.range (k + 1)).filter (Mc.can s t)) := HFf.out HCk.out
          clear HFt HFf HCk
          go_wp2
          refine HKd.out _ _ ?_
          go_wp2
          go_roundw
          case rel => exact ⟨k + 1, _, _, _, HLT.out, by go_num, HM1, HFZ⟩
          case measure => simp [intOf]; have := HLT.out; omega
    · have hkn : n = k := by omega
      subst hkn
      have HFK2 : Hid (FK = Mc.ready s t) := by show _ = _; rw [HFK.out, HR.out]
      have c7 : wr.cell? ⟨g, 7, none⟩ = some (.slice la2 FK.length lc2) := HM.out.c7
      go_wp2
      refine HK.out _ _ ?_
      go_wp2
      rw [HP.out]
      exact ⟨_, rfl, by rw [← HFK2.out]; exact HM.out⟩
end LW
end Go.Proofs.Ytheifjakpdeiaaa
