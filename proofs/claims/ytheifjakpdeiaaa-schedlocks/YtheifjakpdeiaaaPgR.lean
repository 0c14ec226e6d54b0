/-
  What the program's machine reads.
-/
import Derived.Test.YtheifjakpdeiaaaPgN
import Derived.Test.YtheifjakpdeiaaaSw
namespace Go.Proofs.Ytheifjakpdeiaaa
open Go.RowKit
set_option linter.unusedVariables false
set_option linter.unusedSimpArgs false
namespace LW
open Mc
theorem Qu.sl {w : World} {v : Value} {xs : List Int} (h : Qu w v xs) : ∃ a c, v = .slice a xs.length c := by
  rcases h with ⟨rfl, rfl⟩ | ⟨b, off, cap, cur, rfl, _⟩
  · exact ⟨_, _, rfl⟩
  · exact ⟨_, _, rfl⟩
/-- Can an instruction be done? -/
def canI (s : Syst) (t : St) (i : Ins) : Bool :=
  if i.op = 5 then t.shut.getD i.a.toNat false || decide (((t.held.getD i.a.toNat []).length : Int) < s.rooms.getD i.a.toNat 0)
  else if i.op = 6 then t.shut.getD i.a.toNat false || decide (0 < (t.held.getD i.a.toNat []).length)
  else if i.op = 8 then !(t.locked.getD i.a.toNat false)
  else if i.op = 11 then decide (t.groups.getD i.a.toNat 0 = 0)
  else true
theorem can_eq (s : Syst) (t : St) (k : Nat) : Mc.can s t k = if (Mc.rn t k).ended then false else canI s t (Mc.ins s t k) := rfl
theorem aT_end {s : Syst} {r : Rn} (h : GR s r) : (aT s r == ((pg s r.prog).length : Int)) = r.ended := by
  unfold aT
  cases he : r.ended with
  | true => simp
  | false =>
    have := h.ps he
    simp
    omega
set_option maxRecDepth 100000 in
set_option maxHeartbeats 4000000 in
theorem pended (b : Nat) (A : Option Addr) (n K : Nat) (x : Int) (w : World) (h0 : w.cell? ⟨b, 0, none⟩ = some (.slice A n K)) (h1 : w.cell? ⟨b, 1, none⟩ = some (.int .i64 x)) : Calls Try.prog 33 #[.pointer (some ⟨b, 0, none⟩)] w fun e w' => e = .returned (.bool (x == (n : Int))) ∧ Below w.heap.size w w' := by
  go_enter Try.func33, Try.ntmps33
  go_wp2
  go_quiet (fail)
  go_wp2
  go_ret
  exact ⟨rfl, below_drewN (Below.refl _ _) _⟩
set_option maxRecDepth 100000 in
set_option maxHeartbeats 4000000 in
theorem ptakes (b f : Nat) (room : Int) (qa : Option Addr) (ql qc : Nat) (sh : Bool) (w : World) (h0 : w.cell? ⟨b, f, none⟩ = some (.int .i64 room)) (h1 : w.cell? ⟨b, f + 1, none⟩ = some (.slice qa ql qc)) (h2 : w.cell? ⟨b, f + 2, none⟩ = some (.bool sh)) : Calls Try.prog 37 #[.pointer (some ⟨b, f, none⟩)] w fun e w' => e = .returned (.bool (sh || decide ((ql : Int) < room))) ∧ Below w.heap.size w w' := by
  go_enter Try.func37, Try.ntmps37
  cases sh with
  | true =>
    go_wp2
    go_quiet (fail)
    go_wp2
    go_ret
    exact ⟨rfl, below_drewN (Below.refl _ _) _⟩
  | false =>
    go_wp2
    go_quiet (fail)
    go_wp2
    go_ret
    exact ⟨by simp, below_drewN (Below.refl _ _) _⟩
set_option maxRecDepth 100000 in
set_option maxHeartbeats 4000000 in
theorem pgives (b f : Nat) (qa : Option Addr) (ql qc : Nat) (sh : Bool) (w : World) (h1 : w.cell? ⟨b, f + 1, none⟩ = some (.slice qa ql qc)) (h2 : w.cell? ⟨b, f + 2, none⟩ = some (.bool sh)) : Calls Try.prog 38 #[.pointer (some ⟨b, f, none⟩)] w fun e w' => e = .returned (.bool (sh || decide (0 < ql))) ∧ Below w.heap.size w w' := by
  go_enter Try.func38, Try.ntmps38
  cases sh with
  | true =>
    go_wp2
    go_ret
    exact ⟨rfl, Below.refl _ _⟩
  | false =>
    by_cases hq : 0 < ql
    · have kq : (0 : Int) < (ql : Int) := by omega
      go_wp2
      go_ret
      exact ⟨by simp [hq], Below.refl _ _⟩
    · have kq : ¬ (0 : Int) < (ql : Int) := by omega
      go_wp2
      go_ret
      exact ⟨by simp [hq], Below.refl _ _⟩
set_option maxRecDepth 100000 in
set_option maxHeartbeats 4000000 in
theorem pcan {o : World} {g : Nat} {s : Syst} {pa : Option Addr} {pc : Nat} {t : St} {m : PV} (op a0 a1 a2 : Int) (w : World) (h : PM o w g s pa pc t m) (h5 : op = 5 ∨ op = 6 → 0 ≤ a0 ∧ a0 < t.held.length) (h8 : op = 8 → 0 ≤ a0 ∧ a0 < t.locked.length) (h11 : op = 11 → 0 ≤ a0 ∧ a0 < t.groups.length) :
    Calls Try.prog 34 #[.pointer (some ⟨g, 0, none⟩), .agg #[.int .i64 op, .int .i64 a0, .int .i64 a1, .int .i64 a2]] w fun e w' => e = .returned (.bool (canI s t ⟨op, a0, a1, a2⟩)) ∧ Below w.heap.size w w' := by
  have hA : Below w.heap.size w (w.alloc (.cells #[.int .i64 op, .int .i64 a0, .int .i64 a1, .int .i64 a2] 48)) := (Below.refl _ _).alloc (Nat.le_refl _) _
  have NI : Hid ((w.alloc (.cells #[.int .i64 op, .int .i64 a0, .int .i64 a1, .int .i64 a2] 48)).heap[w.heap.size]? = some (.cells #[.int .i64 op, .int .i64 a0, .int .i64 a1, .int .i64 a2] 48 (0, 0))) := heap_alloc_new w _
  have HBV := TW.hide hA
  have HM := TW.hide (h.below hA)
  clear hA h
  obtain ⟨CA, hCA⟩ : ∃ CA, CA = canI s t ⟨op, a0, a1, a2⟩ := ⟨_, rfl⟩
  rw [← hCA]
  unfold canI at hCA
  dsimp only at hCA
  go_enter Try.func34, Try.ntmps34
  refine wp_seq_k fun K hK => ?_
  have HK := TW.hide hK
  clear hK
  go_wp2
  refine HK.out _ _ ?_
  clear HK K
  generalize w.alloc _ = X at *
  have hgX := HBV.out.size
  generalize w.heap.size = gi at *
  obtain ⟨z0, z1, z2, z3⟩ := cellsY4 NI.out
  have HX : Hid (Below X.heap.size X X) := Below.refl _ _
  by_cases h_5 : op = 5
  · obtain ⟨c, rfl⟩ : ∃ c : Nat, a0 = (c : Int) := ⟨a0.toNat, by have := h5 (.inl h_5); omega⟩
    have hcl : c < t.held.length := by have := h5 (.inl h_5); omega
    have c1 : (c : Int) < (t.held.length : Int) := by omega
    have c0 : (0 : Int) ≤ (c : Int) := by omega
    obtain ⟨hb, hc_, e2, _, _, x0, x1, x2⟩ := HM.out.ch1 c hcl
    obtain ⟨qa, qc, eq⟩ := (HM.out.qus c hcl).sl
    rw [eq] at x1
    have c2 := HM.out.c2
    rw [e2] at c2
    rw [if_pos h_5, Int.toNat_natCast] at hCA
    have HC := TW.hide hCA
    have HT5 : Hid (∀ W, Below X.heap.size X W → Calls Try.prog 37 #[.pointer (some ⟨hb, c * 3, none⟩)] W fun e w' => e = .returned (.bool (t.shut.getD c false || decide (((t.held.getD c []).length : Int) < s.rooms.getD c 0))) ∧ Below W.heap.size W w') := fun W hW => ptakes hb (c * 3) _ qa _ qc _ W (keepC hW x0) (keepC hW x1) (keepC hW x2)
    have k5 : (op == 5) = true := by simp [h_5]
    clear h_5 h5 h8 h11 hCA x0 x1 x2 e2 eq hcl
    generalize t.held.length = n at *
    generalize (t.shut.getD c false || decide (((t.held.getD c []).length : Int) < s.rooms.getD c 0)) = BB at *
    go_wp2
    refine wp_region_noPanic ?_
    refine RG.wp_region_L (fun Z => True) (fun Z => Below X.heap.size X Z) [] (by kernel_rfl) ?_
    refine RG.wpL_any fun Yc5 hY => ?_
    have HTc5 : Hid (Below X.heap.size X Yc5) := by rw [hY]; exact below_drewN HX.out 1
    clear hY
    refine RG.wpL_take (fuel := 2) (a' := ?Ac5) [0, 1, 2, 3, 4, 5, 6] (by kernel_rfl) (by kernel_rfl) (fun _ _ _ _ _ h => h) HTc5.out (fun _ => trivial) ?rc5 ?_
    case rc5 =>
      refine RG.RunsIf.weak (v := ?_) (by rfl) (by rfl) (fun Z hT => ?_) ?_
      rotate_left
      · go_simp
        rfl
      simp only [Act.put, List.setIfInBounds_toArray, List.set_cons_zero, List.set_cons_succ, List.getElem_toArray, List.getElem_cons_zero, List.getElem_cons_succ]
      refine RG.RunsIf.weak (v := ?_) (by rfl) (by rfl) (fun Z hT => ?_) ?_
      rotate_left
      · go_simp
        rfl
      simp only [Act.put, List.setIfInBounds_toArray, List.set_cons_zero, List.set_cons_succ, List.getElem_toArray, List.getElem_cons_zero, List.getElem_cons_succ]
      refine RG.RunsIf.weak (v := ?_) (by rfl) (by rfl) (fun Z hT => ?_) ?_
      rotate_left
      · go_simp
        rfl
      simp only [Act.put, List.setIfInBounds_toArray, List.set_cons_zero, List.set_cons_succ, List.getElem_toArray, List.getElem_cons_zero, List.getElem_cons_succ]
      refine RG.RunsIf.weak (v := .slice (some ⟨hb, 0, none⟩) n hc_) (by rfl) (by rfl) (fun Z hT => ?_) ?_
      · have y0 := keepC hT c2; have y1 := keepC hT z1
        go_simp
      simp only [Act.put, List.setIfInBounds_toArray, List.set_cons_zero, List.set_cons_succ, List.getElem_toArray, List.getElem_cons_zero, List.getElem_cons_succ]
      refine RG.RunsIf.weak (v := ?_) (by rfl) (by rfl) (fun Z hT => ?_) ?_
      rotate_left
      · go_simp
        rfl
      simp only [Act.put, List.setIfInBounds_toArray, List.set_cons_zero, List.set_cons_succ, List.getElem_toArray, List.getElem_cons_zero, List.getElem_cons_succ]
      refine RG.RunsIf.weak (v := .int .i64 (c : Int)) (by rfl) (by rfl) (fun Z hT => ?_) ?_
      · have y0 := keepC hT c2; have y1 := keepC hT z1
        go_simp
      simp only [Act.put, List.setIfInBounds_toArray, List.set_cons_zero, List.set_cons_succ, List.getElem_toArray, List.getElem_cons_zero, List.getElem_cons_succ]
      refine RG.RunsIf.weak (v := ?_) (by rfl) (by rfl) (fun Z hT => ?_) ?_
      rotate_left
      · go_simp
        rfl
      simp only [Act.put, List.setIfInBounds_toArray, List.set_cons_zero, List.set_cons_succ, List.getElem_toArray, List.getElem_cons_zero, List.getElem_cons_succ]
      exact RG.RunsIf.nil
    refine RG.wpL_step (i := 7) (by kernel_rfl) (by rfl) (by rfl) (fun KX hK => ?_)
    have HK := TW.hide hK
    clear hK
    go_simp
    refine (HT5.out Yc5 HTc5.out).mono ?_
    rintro e_W1 W1 ⟨rfl, hb⟩
    have HT1 : Hid (Below X.heap.size X W1) := HTc5.out.trans (hb.mono HTc5.out.size)
    refine HK.out _ _ HT1.out (fun _ => trivial) ?_
    clear HK KX hb
    try simp only [Act.put, List.setIfInBounds_toArray, List.set_cons_zero, List.set_cons_succ, List.getElem_toArray, List.getElem_cons_zero, List.getElem_cons_succ]
    refine RG.wpL_take (fuel := 0) (a' := ?Ac5x) [8] (by kernel_rfl) (by kernel_rfl) (fun _ _ _ _ _ h => h) HT1.out (fun _ => trivial) ?rc5x ?_
    case rc5x =>
      refine RG.RunsIf.weak (v := ?_) (by rfl) (by rfl) (fun Z hT => ?_) ?_
      rotate_left
      · go_simp
        rfl
      simp only [Act.put, List.setIfInBounds_toArray, List.set_cons_zero, List.set_cons_succ, List.getElem_toArray, List.getElem_cons_zero, List.getElem_cons_succ]
      exact RG.RunsIf.nil
    refine RG.wpL_done (by kernel_rfl) ?_ _
    refine NoPanic.normal ?_
    go_wp2
    go_ret
    exact ⟨by rw [HC.out]; rfl, HBV.out.trans (HT1.out.mono hgX)⟩
  have k5 : (op == 5) = false := by simp [h_5]
  rw [if_neg h_5] at hCA
  by_cases h_6 : op = 6
  · obtain ⟨c, rfl⟩ : ∃ c : Nat, a0 = (c : Int) := ⟨a0.toNat, by have := h5 (.inr h_6); omega⟩
    have hcl : c < t.held.length := by have := h5 (.inr h_6); omega
    have c1 : (c : Int) < (t.held.length : Int) := by omega
    have c0 : (0 : Int) ≤ (c : Int) := by omega
    obtain ⟨hb, hc_, e2, _, _, x0, x1, x2⟩ := HM.out.ch1 c hcl
    obtain ⟨qa, qc, eq⟩ := (HM.out.qus c hcl).sl
    rw [eq] at x1
    have c2 := HM.out.c2
    rw [e2] at c2
    rw [if_pos h_6, Int.toNat_natCast] at hCA
    have HC := TW.hide hCA
    have HT5 : Hid (∀ W, Below X.heap.size X W → Calls Try.prog 38 #[.pointer (some ⟨hb, c * 3, none⟩)] W fun e w' => e = .returned (.bool (t.shut.getD c false || decide (0 < (t.held.getD c []).length))) ∧ Below W.heap.size W w') := fun W hW => pgives hb (c * 3) qa _ qc _ W (keepC hW x1) (keepC hW x2)
    have k6 : (op == 6) = true := by simp [h_6]
    clear h_5 h_6 h5 h8 h11 hCA x0 x1 x2 e2 eq hcl
    generalize t.held.length = n at *
    generalize (t.shut.getD c false || decide (0 < (t.held.getD c []).length)) = BB at *
    go_wp2
    refine wp_region_noPanic ?_
    refine RG.wp_region_L (fun Z => True) (fun Z => Below X.heap.size X Z) [] (by kernel_rfl) ?_
    refine RG.wpL_any fun Yc6 hY => ?_
    have HTc6 : Hid (Below X.heap.size X Yc6) := by rw [hY]; exact below_drewN HX.out 1
    clear hY
    refine RG.wpL_take (fuel := 2) (a' := ?Ac6) [0, 1, 2, 3, 4, 5, 6] (by kernel_rfl) (by kernel_rfl) (fun _ _ _ _ _ h => h) HTc6.out (fun _ => trivial) ?rc6 ?_
    case rc6 =>
      refine RG.RunsIf.weak (v := ?_) (by rfl) (by rfl) (fun Z hT => ?_) ?_
      rotate_left
      · go_simp
        rfl
      simp only [Act.put, List.setIfInBounds_toArray, List.set_cons_zero, List.set_cons_succ, List.getElem_toArray, List.getElem_cons_zero, List.getElem_cons_succ]
      refine RG.RunsIf.weak (v := ?_) (by rfl) (by rfl) (fun Z hT => ?_) ?_
      rotate_left
      · go_simp
        rfl
      simp only [Act.put, List.setIfInBounds_toArray, List.set_cons_zero, List.set_cons_succ, List.getElem_toArray, List.getElem_cons_zero, List.getElem_cons_succ]
      refine RG.RunsIf.weak (v := ?_) (by rfl) (by rfl) (fun Z hT => ?_) ?_
      rotate_left
      · go_simp
        rfl
      simp only [Act.put, List.setIfInBounds_toArray, List.set_cons_zero, List.set_cons_succ, List.getElem_toArray, List.getElem_cons_zero, List.getElem_cons_succ]
      refine RG.RunsIf.weak (v := .slice (some ⟨hb, 0, none⟩) n hc_) (by rfl) (by rfl) (fun Z hT => ?_) ?_
      · have y0 := keepC hT c2; have y1 := keepC hT z1
        go_simp
      simp only [Act.put, List.setIfInBounds_toArray, List.set_cons_zero, List.set_cons_succ, List.getElem_toArray, List.getElem_cons_zero, List.getElem_cons_succ]
      refine RG.RunsIf.weak (v := ?_) (by rfl) (by rfl) (fun Z hT => ?_) ?_
      rotate_left
      · go_simp
        rfl
      simp only [Act.put, List.setIfInBounds_toArray, List.set_cons_zero, List.set_cons_succ, List.getElem_toArray, List.getElem_cons_zero, List.getElem_cons_succ]
      refine RG.RunsIf.weak (v := .int .i64 (c : Int)) (by rfl) (by rfl) (fun Z hT => ?_) ?_
      · have y0 := keepC hT c2; have y1 := keepC hT z1
        go_simp
      simp only [Act.put, List.setIfInBounds_toArray, List.set_cons_zero, List.set_cons_succ, List.getElem_toArray, List.getElem_cons_zero, List.getElem_cons_succ]
      refine RG.RunsIf.weak (v := ?_) (by rfl) (by rfl) (fun Z hT => ?_) ?_
      rotate_left
      · go_simp
        rfl
      simp only [Act.put, List.setIfInBounds_toArray, List.set_cons_zero, List.set_cons_succ, List.getElem_toArray, List.getElem_cons_zero, List.getElem_cons_succ]
      exact RG.RunsIf.nil
    refine RG.wpL_step (i := 7) (by kernel_rfl) (by rfl) (by rfl) (fun KX hK => ?_)
    have HK := TW.hide hK
    clear hK
    go_simp
    refine (HT5.out Yc6 HTc6.out).mono ?_
    rintro e_W1 W1 ⟨rfl, hb⟩
    have HT1 : Hid (Below X.heap.size X W1) := HTc6.out.trans (hb.mono HTc6.out.size)
    refine HK.out _ _ HT1.out (fun _ => trivial) ?_
    clear HK KX hb
    try simp only [Act.put, List.setIfInBounds_toArray, List.set_cons_zero, List.set_cons_succ, List.getElem_toArray, List.getElem_cons_zero, List.getElem_cons_succ]
    refine RG.wpL_take (fuel := 0) (a' := ?Ac6x) [8] (by kernel_rfl) (by kernel_rfl) (fun _ _ _ _ _ h => h) HT1.out (fun _ => trivial) ?rc6x ?_
    case rc6x =>
      refine RG.RunsIf.weak (v := ?_) (by rfl) (by rfl) (fun Z hT => ?_) ?_
      rotate_left
      · go_simp
        rfl
      simp only [Act.put, List.setIfInBounds_toArray, List.set_cons_zero, List.set_cons_succ, List.getElem_toArray, List.getElem_cons_zero, List.getElem_cons_succ]
      exact RG.RunsIf.nil
    refine RG.wpL_done (by kernel_rfl) ?_ _
    refine NoPanic.normal ?_
    go_wp2
    go_ret
    exact ⟨by rw [HC.out]; rfl, HBV.out.trans (HT1.out.mono hgX)⟩
  have k6 : (op == 6) = false := by simp [h_6]
  rw [if_neg h_6] at hCA
  by_cases h_8 : op = 8
  · obtain ⟨c, rfl⟩ : ∃ c : Nat, a0 = (c : Int) := ⟨a0.toNat, by have := h8 h_8; omega⟩
    have hcl : c < t.locked.length := by have := h8 h_8; omega
    have c1 : (c : Int) < (t.locked.length : Int) := by omega
    have c0 : (0 : Int) ≤ (c : Int) := by omega
    obtain ⟨hb, hc_, e2, _, _, x0⟩ := HM.out.lk1 c hcl
    have c2 := HM.out.c4
    rw [e2] at c2
    rw [if_pos h_8, Int.toNat_natCast] at hCA
    have HC := TW.hide hCA
    have k8 : (op == 8) = true := by simp [h_8]
    clear h_5 h_6 h_8 h5 h8 h11 hCA e2 hcl
    generalize t.locked.length = n at *
    generalize t.locked.getD c false = BB at *
    go_wp2
    go_quiet (fail)
    go_wp2
    go_ret
    exact ⟨by rw [HC.out]; rfl, below_drewN HBV.out _⟩
  have k8 : (op == 8) = false := by simp [h_8]
  rw [if_neg h_8] at hCA
  by_cases h_11 : op = 11
  · obtain ⟨c, rfl⟩ : ∃ c : Nat, a0 = (c : Int) := ⟨a0.toNat, by have := h11 h_11; omega⟩
    have hcl : c < t.groups.length := by have := h11 h_11; omega
    have c1 : (c : Int) < (t.groups.length : Int) := by omega
    have c0 : (0 : Int) ≤ (c : Int) := by omega
    obtain ⟨hb, hc_, e2, _, _, x0⟩ := HM.out.gr1 c hcl
    have c2 := HM.out.c3
    rw [e2] at c2
    rw [if_pos h_11, Int.toNat_natCast] at hCA
    have HC := TW.hide hCA
    have k11 : (op == 11) = true := by simp [h_11]
    clear h_5 h_6 h_8 h_11 h5 h8 h11 hCA e2 hcl
    generalize t.groups.length = n at *
    generalize t.groups.getD c 0 = BB at *
    go_wp2
    go_quiet (fail)
    go_wp2
    go_ret
    exact ⟨by rw [HC.out]; by_cases hz : BB = 0 <;> simp [hz], below_drewN HBV.out _⟩
  have k11 : (op == 11) = false := by simp [h_11]
  rw [if_neg h_11] at hCA
  have HC := TW.hide hCA
  clear h_5 h_6 h_8 h_11 h5 h8 h11 hCA
  go_wp2
  go_ret
  exact ⟨by rw [HC.out]; rfl, HBV.out⟩
set_option maxRecDepth 100000 in
set_option maxHeartbeats 4000000 in
theorem prest (n : Int) (d : Nat) (w : World) (h0 : 0 < d) (h1 : d ≤ 4611686018427387904) (hn : i64 n) : Calls Try.prog 31 #[.int .i64 n, .int .i64 (d : Int)] w fun e w' => e = .returned (.int .i64 (n % (d : Int))) ∧ w = w' := by
  unfold i64 at hn
  have kd : ((d : Int) == 0) = false := by simp; omega
  have d1 : ¬ (d : Int) = -1 := by omega
  have a1 := Int.tmod_lt_of_pos n (show (0 : Int) < d by omega)
  have a2 := Int.lt_tmod_of_pos n (show (0 : Int) < d by omega)
  have e1 : IntKind.i64.wrap (n.tmod (d : Int)) = n.tmod (d : Int) := by rw [IntKind.wrap_i64]; omega
  have e2 : IntKind.i64.wrap (n.tmod (d : Int) + (d : Int)) = n.tmod (d : Int) + (d : Int) := by rw [IntKind.wrap_i64]; omega
  have e4 : (n.tmod (d : Int) + (d : Int)).tmod (d : Int) = n % (d : Int) := by
    have b1 : 0 ≤ n.tmod (d : Int) + (d : Int) := by omega
    rw [Int.tmod_eq_emod_of_nonneg b1, Int.add_emod_right]
    rw [Int.tmod_def, Int.sub_mul_emod_self_left]
  have b3 := Int.emod_nonneg n (show (d : Int) ≠ 0 by omega)
  have b4 := Int.emod_lt_of_pos n (show (0 : Int) < d by omega)
  have e3 : IntKind.i64.wrap ((n.tmod (d : Int) + (d : Int)).tmod (d : Int)) = n % (d : Int) := by rw [e4, IntKind.wrap_i64]; omega
  go_enter Try.func31, Try.ntmps31
  go_wp2
  go_ret
  exact ⟨rfl, rfl⟩
end LW
end Go.Proofs.Ytheifjakpdeiaaa
