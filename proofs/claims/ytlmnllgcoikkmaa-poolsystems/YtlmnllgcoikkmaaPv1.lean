/-
  What the small calls of pool, and the document's, give: whether a pool may be, how many buffers it has.
-/
import Derived.Test.YtlmnllgcoikkmaaPlain
namespace Go.Proofs.Ytlmnllgcoikkmaa
open Go.RowKit
set_option linter.unusedVariables false
set_option linter.unusedSimpArgs false
namespace LW
open Words
/-- A number lies outside. -/
def ou (n a b : Int) : Bool := decide (n < a) || decide (b < n)
theorem outside (n a b : Int) (w : World) : Calls Try.prog 22 #[.int .i64 n, .int .i64 a, .int .i64 b] w fun e w' => e = .returned (.bool (ou n a b)) ∧ w' = w := by
  unfold ou
  by_cases h1 : n < a
  · go_enter Try.func22, Try.ntmps22
    go_wp2
    go_ret
    exact ⟨by simp [h1], rfl⟩
  · go_enter Try.func22, Try.ntmps22
    go_wp2
    go_ret
    exact ⟨by simp; omega, rfl⟩
/-- What Valid answers. -/
def vp (a q : Int) : Int := if ou a 1 256 || ou q 1 1024 then 150 else 0
theorem cells2 {w : World} {b : Nat} {t : TypeId} {v0 v1 : Value} (h : w.heap[b]? = some (.cells #[v0, v1] t (0, 0))) :
    w.cell? ⟨b, 0, none⟩ = some v0 ∧ w.cell? ⟨b, 1, none⟩ = some v1 := by
  simp [World.cell?, h]
set_option maxHeartbeats 2000000 in
theorem pvalid (a q : Int) (w : World) : Calls Try.prog 11 #[.agg #[.int .i64 a, .int .i64 q]] w fun e w' => e = .returned (.int .i64 (vp a q)) ∧ Below w.heap.size w w' := by
  unfold vp
  have H1 := TW.hide (fun W => outside a 1 256 W)
  have H2 := TW.hide (fun W => outside q 1 1024 W)
  generalize ou a 1 256 = q1 at *
  generalize ou q 1 1024 = q2 at *
  have n0 := heap_alloc_new w (.cells #[.int .i64 a, .int .i64 q] 23)
  have hb := (Below.refl w.heap.size w).alloc (Nat.le_refl _) (.cells #[.int .i64 a, .int .i64 q] 23)
  have HB := TW.hide hb
  obtain ⟨c0, c1⟩ := cells2 n0
  clear n0 hb
  go_enter Try.func11, Try.ntmps11
  go_wp2_with fail
  refine (H1.out _).mono ?_
  rintro e1 w1 ⟨rfl, rfl⟩
  cases q1 with
  | true =>
    go_wp2
    go_ret
    exact ⟨rfl, HB.out⟩
  | false =>
    go_wp2_with fail
    refine (H2.out _).mono ?_
    rintro e1 w1 ⟨rfl, rfl⟩
    cases q2 with
    | true =>
      go_wp2
      go_ret
      exact ⟨rfl, HB.out⟩
    | false =>
      go_wp2
      go_ret
      exact ⟨rfl, HB.out⟩
set_option maxHeartbeats 2000000 in
theorem rvalid (a q : Int) (w : World) : Calls Try.prog 12 #[.agg #[.int .i64 a, .int .i64 q]] w fun e w' => e = .returned (.int .i64 (vp a q)) ∧ Below w.heap.size w w' := by
  unfold vp ou
  have n0 := heap_alloc_new w (.cells #[.int .i64 a, .int .i64 q] 23)
  have hb := (Below.refl w.heap.size w).alloc (Nat.le_refl _) (.cells #[.int .i64 a, .int .i64 q] 23)
  have HB := TW.hide hb
  obtain ⟨c0, c1⟩ := cells2 n0
  clear n0 hb
  generalize g1 : decide (a < 1) = b1
  generalize g2 : decide (256 < a) = b2
  generalize g3 : decide (q < 1) = b3
  generalize g4 : decide (1024 < q) = b4
  cases b1 <;> cases b2 <;> cases b3 <;> cases b4
  all_goals
    go_enter Try.func12, Try.ntmps12
    go_wp2
    first
      | (go_ret; exact ⟨rfl, HB.out⟩)
      | trace_state
    done
/-- How many buffers. -/
def bu (a q : Int) : Int := if a + q < 64 then a + q else 64
theorem vp0 {a q : Int} (h : vp a q = 0) : 1 ≤ a ∧ a ≤ 256 ∧ 1 ≤ q ∧ q ≤ 1024 := by
  unfold vp ou at h
  split at h
  · simp at h
  · rename_i h'
    simp at h'
    omega
theorem vp150 {a q : Int} (h : vp a q ≠ 0) : vp a q = 150 := by
  unfold vp at *
  split at h <;> simp_all
set_option maxHeartbeats 2000000 in
theorem pbuffers (a q : Int) (w : World) (h0 : vp a q = 0) : Calls Try.prog 15 #[.agg #[.int .i64 a, .int .i64 q]] w fun e w' => e = .returned (.int .i64 (bu a q)) ∧ Below w.heap.size w w' := by
  obtain ⟨h1, h2, h3, h4⟩ := vp0 h0
  clear h0
  have e1 : IntKind.i64.wrap (q + a) = q + a := by rw [IntKind.wrap_i64]; omega
  have n0 := heap_alloc_new w (.cells #[.int .i64 a, .int .i64 q] 23)
  have hb := (Below.refl w.heap.size w).alloc (Nat.le_refl _) (.cells #[.int .i64 a, .int .i64 q] 23)
  have HB := TW.hide hb
  obtain ⟨c0, c1⟩ := cells2 n0
  clear n0 hb
  generalize hB : bu a q = B
  go_enter Try.func15, Try.ntmps15
  go_wp2
  all_goals
    go_ret
    exact ⟨TW.ret_int (by subst hB; unfold bu; split <;> omega), HB.out⟩
set_option maxHeartbeats 2000000 in
theorem pBuffers (a q : Int) (w : World) : Calls Try.prog 5 #[.agg #[.int .i64 a, .int .i64 q]] w fun e w' => e = .returned (.tuple #[.int .i64 (if vp a q = 0 then bu a q else 0), .int .i64 (vp a q)]) ∧ Below w.heap.size w w' := by
  have n0 := heap_alloc_new w (.cells #[.int .i64 a, .int .i64 q] 23)
  have hb := (Below.refl w.heap.size w).alloc (Nat.le_refl _) (.cells #[.int .i64 a, .int .i64 q] 23)
  obtain ⟨c0, c1⟩ := cells2 n0
  have HV := TW.hide (fun W => pvalid a q W)
  have HU := TW.hide (fun W => pbuffers a q W)
  have HN := TW.hide n0
  have HB := TW.hide hb
  generalize vp a q = v at *
  generalize bu a q = u at *
  clear n0 hb
  go_enter Try.func5, Try.ntmps5
  go_wp2_with fail
  refine (HV.out _).mono ?_
  rintro e1 w1 ⟨rfl, hb1⟩
  have hX := HB.out.trans (hb1.mono (by simp))
  obtain ⟨c0, c1⟩ := cells2 (blk_keep HN.out hb1)
  have HX := TW.hide hX
  clear HN HB hb1 hX
  by_cases h : v = 0
  · subst h
    go_wp2_with fail
    refine (HU.out _ (by first | rfl | trivial)).mono ?_
    rintro e2 w2 ⟨rfl, hb2⟩
    have HY := TW.hide (HX.out.trans (hb2.mono HX.out.size))
    clear hb2
    go_wp2
    go_ret2
    exact ⟨by simp, HY.out⟩
  · go_wp2
    go_ret2
    exact ⟨by simp [h], HX.out⟩
set_option maxHeartbeats 2000000 in
theorem rBuffers (a q : Int) (w : World) : Calls Try.prog 6 #[.agg #[.int .i64 a, .int .i64 q]] w fun e w' => e = .returned (.tuple #[.int .i64 (if vp a q = 0 then bu a q else 0), .int .i64 (vp a q)]) ∧ Below w.heap.size w w' := by
  have n0 := heap_alloc_new w (.cells #[.int .i64 a, .int .i64 q] 23)
  have hb := (Below.refl w.heap.size w).alloc (Nat.le_refl _) (.cells #[.int .i64 a, .int .i64 q] 23)
  obtain ⟨c0, c1⟩ := cells2 n0
  have HV := TW.hide (fun W => rvalid a q W)
  have HI := TW.hide (fun h => @vp0 a q h)
  have HN := TW.hide n0
  have HB := TW.hide hb
  generalize vp a q = v at *
  clear n0 hb
  go_enter Try.func6, Try.ntmps6
  go_wp2_with fail
  refine (HV.out _).mono ?_
  rintro e1 w1 ⟨rfl, hb1⟩
  have hX := HB.out.trans (hb1.mono (by simp))
  obtain ⟨c0, c1⟩ := cells2 (blk_keep HN.out hb1)
  have HX := TW.hide hX
  clear HN HB hb1 hX
  by_cases h : v = 0
  · subst h
    have e1 : IntKind.i64.wrap (a + q) = a + q := by have := HI.out rfl; rw [IntKind.wrap_i64]; omega
    generalize hu : bu a q = u
    by_cases h2 : a + q < 64
    · go_wp2
      go_ret2
      exact ⟨by subst hu; simp [bu, h2]; try omega, HX.out⟩
    · go_wp2
      go_ret2
      exact ⟨by subst hu; simp [bu, h2]; try omega, HX.out⟩
  · go_wp2
    go_ret2
    exact ⟨by simp [h], HX.out⟩
/-- What fits answers. -/
def ft (n a q : Int) : Int := if vp a q ≠ 0 then 150 else if ou n 0 1024 then 1 else 0
set_option maxHeartbeats 2000000 in
theorem pfits (n a q : Int) (w : World) : Calls Try.prog 16 #[.int .i64 n, .agg #[.int .i64 a, .int .i64 q]] w fun e w' => e = .returned (.int .i64 (ft n a q)) ∧ Below w.heap.size w w' := by
  have n0 := heap_alloc_new w (.cells #[.int .i64 a, .int .i64 q] 23)
  have hb := (Below.refl w.heap.size w).alloc (Nat.le_refl _) (.cells #[.int .i64 a, .int .i64 q] 23)
  obtain ⟨c0, c1⟩ := cells2 n0
  unfold ft
  have HV := TW.hide (fun W => pvalid a q W)
  have HO := TW.hide (fun W => outside n 0 1024 W)
  have HI := TW.hide (@vp150 a q)
  have HB := TW.hide hb
  generalize vp a q = v at *
  generalize ou n 0 1024 = o at *
  clear n0 hb
  go_enter Try.func16, Try.ntmps16
  go_wp2_with fail
  refine (HV.out _).mono ?_
  rintro e1 w1 ⟨rfl, hb1⟩
  have HX := TW.hide (HB.out.trans (hb1.mono (by simp)))
  clear HB hb1
  by_cases h : v = 0
  · subst h
    go_wp2_with fail
    refine (HO.out _).mono ?_
    rintro e2 w2 ⟨rfl, rfl⟩
    cases o
    · go_wp2
      go_ret
      exact ⟨by simp, HX.out⟩
    · go_wp2
      go_ret
      exact ⟨by simp, HX.out⟩
  · have := HI.out h
    subst this
    go_wp2
    go_ret
    exact ⟨by simp, HX.out⟩
/-- What Bound answers. -/
def bd (n a q : Int) : Int := if ft n a q = 0 then 23 + 8 * a + 4 * bu a q + 15 * n else 0
theorem ft0 {n a q : Int} (h : ft n a q = 0) : vp a q = 0 ∧ 0 ≤ n ∧ n ≤ 1024 := by
  unfold ft at h
  split at h
  · simp at h
  · rename_i h1
    split at h
    · simp at h
    · rename_i h2
      simp at h1
      unfold ou at h2
      simp at h2
      exact ⟨h1, by omega, by omega⟩
theorem bu_le {a q : Int} (h : vp a q = 0) : 2 ≤ bu a q ∧ bu a q ≤ 64 := by
  have := vp0 h
  unfold bu
  split <;> omega
set_option maxHeartbeats 2000000 in
theorem pbound (n a q : Int) (w : World) : Calls Try.prog 9 #[.int .i64 n, .agg #[.int .i64 a, .int .i64 q]] w fun e w' => e = .returned (.tuple #[.int .i64 (bd n a q), .int .i64 (ft n a q)]) ∧ Below w.heap.size w w' := by
  have n0 := heap_alloc_new w (.cells #[.int .i64 a, .int .i64 q] 23)
  have hb := (Below.refl w.heap.size w).alloc (Nat.le_refl _) (.cells #[.int .i64 a, .int .i64 q] 23)
  obtain ⟨c0, c1⟩ := cells2 n0
  unfold bd
  have HV := TW.hide (fun W => pfits n a q W)
  have HU := TW.hide (fun W => pbuffers a q W)
  have HI := TW.hide (fun h => (⟨(@ft0 n a q h).1, (@ft0 n a q h).2, vp0 (@ft0 n a q h).1, bu_le (@ft0 n a q h).1⟩ : _ ∧ _ ∧ _ ∧ _))
  have HN := TW.hide n0
  have HB := TW.hide hb
  generalize ft n a q = v at *
  generalize bu a q = u at *
  generalize hz : vp a q = z at *
  clear n0 hb hz
  go_enter Try.func9, Try.ntmps9
  go_wp2_with fail
  refine (HV.out _).mono ?_
  rintro e1 w1 ⟨rfl, hb1⟩
  have hX := HB.out.trans (hb1.mono (by simp))
  obtain ⟨c0, c1⟩ := cells2 (blk_keep HN.out hb1)
  have HX := TW.hide hX
  clear HN HB hb1 hX
  by_cases h : v = 0
  · subst h
    obtain ⟨i0, i1, i2, i3⟩ := HI.out rfl
    have a1 : IntKind.i64.wrap (5 * a) = 5 * a := by rw [IntKind.wrap_i64]; omega
    have a2 : IntKind.i64.wrap (9 + 5 * a) = 9 + 5 * a := by rw [IntKind.wrap_i64]; omega
    have a3 : IntKind.i64.wrap (3 * n) = 3 * n := by rw [IntKind.wrap_i64]; omega
    have a4 : IntKind.i64.wrap (9 + 5 * a + 3 * n) = 9 + 5 * a + 3 * n := by rw [IntKind.wrap_i64]; omega
    have a5 : IntKind.i64.wrap (3 * a) = 3 * a := by rw [IntKind.wrap_i64]; omega
    have a6 : IntKind.i64.wrap (6 * n) = 6 * n := by rw [IntKind.wrap_i64]; omega
    have a7 : IntKind.i64.wrap (3 * a + 6 * n) = 3 * a + 6 * n := by rw [IntKind.wrap_i64]; omega
    have b1 : IntKind.i64.wrap (4 * u) = 4 * u := by rw [IntKind.wrap_i64]; omega
    have b2 : IntKind.i64.wrap (11 + 4 * u) = 11 + 4 * u := by rw [IntKind.wrap_i64]; omega
    have b3 : IntKind.i64.wrap (11 + 4 * u + 6 * n) = 11 + 4 * u + 6 * n := by rw [IntKind.wrap_i64]; omega
    have b4 : IntKind.i64.wrap (9 + 5 * a + 3 * n + (3 * a + 6 * n)) = 9 + 5 * a + 3 * n + (3 * a + 6 * n) := by rw [IntKind.wrap_i64]; omega
    have b5 : IntKind.i64.wrap (9 + 5 * a + 3 * n + (3 * a + 6 * n) + (11 + 4 * u + 6 * n)) = 9 + 5 * a + 3 * n + (3 * a + 6 * n) + (11 + 4 * u + 6 * n) := by rw [IntKind.wrap_i64]; omega
    have b6 : IntKind.i64.wrap (9 + 5 * a + 3 * n + (3 * a + 6 * n) + (11 + 4 * u + 6 * n) + 3) = 9 + 5 * a + 3 * n + (3 * a + 6 * n) + (11 + 4 * u + 6 * n) + 3 := by rw [IntKind.wrap_i64]; omega
    clear i1 i2 i3
    go_wp2_with fail
    refine (HU.out _ (by first | exact i0 | trivial)).mono ?_
    rintro e2 w2 ⟨rfl, hb2⟩
    have HY := TW.hide (HX.out.trans (hb2.mono HX.out.size))
    clear hb2 i0
    go_wp2
    go_ret2
    exact ⟨ret_two (by first | omega | (simp; omega)) rfl, HY.out⟩
  · go_wp2
    go_ret2
    exact ⟨by simp [h], HX.out⟩
theorem awake15 (w : World) : Calls Try.prog 14 #[] w fun e w' => e = .returned (.bool true) ∧ Below w.heap.size w w' := by
  have HB := TW.hide (fun W => pbound 1 1 1 W)
  have e1 : bd 1 1 1 = 54 := by decide
  have e2 : ft 1 1 1 = 0 := by decide
  rw [e1, e2] at HB
  clear e1 e2
  go_enter Try.func14, Try.ntmps14
  go_wp2_with fail
  refine (HB.out _).mono ?_
  rintro e1 w1 ⟨rfl, hb1⟩
  have HX := TW.hide hb1
  clear hb1
  go_wp2
  go_ret
  exact ⟨rfl, HX.out⟩
theorem names15 (w : World) : Calls Try.prog 4 #[] w fun e w' => e = .returned (.bool true) ∧ Below w.heap.size w w' := by
  have HB := TW.hide (fun W => pvalid 0 0 W)
  have e1 : vp 0 0 = 150 := by decide
  rw [e1] at HB
  clear e1
  go_enter Try.func4, Try.ntmps4
  go_wp2_with fail
  refine (HB.out _).mono ?_
  rintro e1 w1 ⟨rfl, hb1⟩
  have HX := TW.hide hb1
  clear hb1
  go_wp2
  go_ret
  exact ⟨rfl, HX.out⟩
end LW
end Go.Proofs.Ytlmnllgcoikkmaa
