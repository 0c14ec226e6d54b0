/-
  What the call Alike (the document's) gives: whether two parameters are the same, byte for byte.
-/
import Derived.Test.YtomdplcmbcjkfaaAlikeN
namespace Go.Proofs.Ytomdplcmbcjkfaa
open Go.RowKit
set_option linter.unusedVariables false
namespace LW
open Words
set_option maxHeartbeats 8000000 in
theorem ralikeB (d k f dp lf off xof nd inn : Int) (sa ta sa' ta' : Option Addr) (sc tc sc' tc' : Nat) (s t s' t' : List Int) (w : World)
    (r1 : Row w sa s) (r2 : Row w ta t) (r3 : Row w sa' s') (r4 : Row w ta' t') (m1 : s.length ≤ maxLen) (m2 : t.length ≤ maxLen) (m3 : s'.length ≤ maxLen) (m4 : t'.length ≤ maxLen) :
    Calls Try.prog 41 #[.agg (pc d k f dp lf off xof nd inn (.slice sa s.length sc) (.slice ta t.length tc)), .agg (pc d k f dp lf off xof nd inn (.slice sa' s'.length sc') (.slice ta' t'.length tc'))] w fun e w' =>
      e = .returned (.bool (decide (s = s') && decide (t = t'))) ∧ Below w.heap.size w w' := by
  have a1 := fun W (h : Row W sa s) (h' : Row W sa' s') => ralike sa sa' sc sc' s s' W h h' m1 m3
  have a2 := fun W (h : Row W ta t) (h' : Row W ta' t') => ralike ta ta' tc tc' t t' W h h' m2 m4
  generalize decide (s = s') = y1 at *
  generalize decide (t = t') = y2 at *
  have R1 := TW.hide r1
  have R2 := TW.hide r2
  have R3 := TW.hide r3
  have R4 := TW.hide r4
  have C1 := TW.hide a1
  have C2 := TW.hide a2
  clear r1 r2 r3 r4 a1 a2 m1 m2 m3 m4
  generalize s.length = sl at *
  generalize t.length = tl at *
  generalize s'.length = sl' at *
  generalize t'.length = tl' at *
  have hb := (((Below.refl w.heap.size w).alloc (Nat.le_refl _) (.cells #[.int .i64 d, .int .i64 k, .int .i64 f, .int .i64 dp, .int .u32 lf, .int .u64 off, .int .u32 xof, .int .i64 nd, .int .i64 inn, .slice sa sl sc, .slice ta tl tc] 26)).alloc (by simp) (.cells #[.int .i64 d, .int .i64 k, .int .i64 f, .int .i64 dp, .int .u32 lf, .int .u64 off, .int .u32 xof, .int .i64 nd, .int .i64 inn, .slice sa' sl' sc', .slice ta' tl' tc'] 26))
  have n0 := blk_alloc (o' := .cells #[.int .i64 d, .int .i64 k, .int .i64 f, .int .i64 dp, .int .u32 lf, .int .u64 off, .int .u32 xof, .int .i64 nd, .int .i64 inn, .slice sa' sl' sc', .slice ta' tl' tc'] 26) (heap_alloc_new w (.cells #[.int .i64 d, .int .i64 k, .int .i64 f, .int .i64 dp, .int .u32 lf, .int .u64 off, .int .u32 xof, .int .i64 nd, .int .i64 inn, .slice sa sl sc, .slice ta tl tc] 26))
  have n1 := heap_alloc_new (w.alloc (.cells #[.int .i64 d, .int .i64 k, .int .i64 f, .int .i64 dp, .int .u32 lf, .int .u64 off, .int .u32 xof, .int .i64 nd, .int .i64 inn, .slice sa sl sc, .slice ta tl tc] 26)) (.cells #[.int .i64 d, .int .i64 k, .int .i64 f, .int .i64 dp, .int .u32 lf, .int .u64 off, .int .u32 xof, .int .i64 nd, .int .i64 inn, .slice sa' sl' sc', .slice ta' tl' tc'] 26)
  rw [show (w.alloc (.cells #[.int .i64 d, .int .i64 k, .int .i64 f, .int .i64 dp, .int .u32 lf, .int .u64 off, .int .u32 xof, .int .i64 nd, .int .i64 inn, .slice sa sl sc, .slice ta tl tc] 26)).heap.size = w.heap.size + 1 by simp] at n1
  unfold pc
  go_enter Try.func41, Try.ntmps41
  refine wp_seq_k fun K hK => ?_
  have HK := TW.hide hK
  clear hK
  go_wp2
  refine HK.out _ _ ?_
  clear HK K
  generalize (w.alloc (.cells #[.int .i64 d, .int .i64 k, .int .i64 f, .int .i64 dp, .int .u32 lf, .int .u64 off, .int .u32 xof, .int .i64 nd, .int .i64 inn, .slice sa sl sc, .slice ta tl tc] 26)).alloc (.cells #[.int .i64 d, .int .i64 k, .int .i64 f, .int .i64 dp, .int .u32 lf, .int .u64 off, .int .u32 xof, .int .i64 nd, .int .i64 inn, .slice sa' sl' sc', .slice ta' tl' tc'] 26) = W at n0 n1 hb ⊢
  have S1 := TW.hide (R1.out.below hb)
  have S2 := TW.hide (R2.out.below hb)
  have S3 := TW.hide (R3.out.below hb)
  have S4 := TW.hide (R4.out.below hb)
  have HB := TW.hide hb
  clear hb R1 R2 R3 R4
  have g0 := blk_cell n0 (i := 0) (v := .int .i64 d) rfl
  have g1 := blk_cell n0 (i := 1) (v := .int .i64 k) rfl
  have g2 := blk_cell n0 (i := 2) (v := .int .i64 f) rfl
  have g3 := blk_cell n0 (i := 3) (v := .int .i64 dp) rfl
  have g4 := blk_cell n0 (i := 4) (v := .int .u32 lf) rfl
  have g5 := blk_cell n0 (i := 5) (v := .int .u64 off) rfl
  have g6 := blk_cell n0 (i := 6) (v := .int .u32 xof) rfl
  have g7 := blk_cell n0 (i := 7) (v := .int .i64 nd) rfl
  have g8 := blk_cell n0 (i := 8) (v := .int .i64 inn) rfl
  have g9 := blk_cell n0 (i := 9) (v := .slice sa sl sc) rfl
  have g10 := blk_cell n0 (i := 10) (v := .slice ta tl tc) rfl
  have j0 := blk_cell n1 (i := 0) (v := .int .i64 d) rfl
  have j1 := blk_cell n1 (i := 1) (v := .int .i64 k) rfl
  have j2 := blk_cell n1 (i := 2) (v := .int .i64 f) rfl
  have j3 := blk_cell n1 (i := 3) (v := .int .i64 dp) rfl
  have j4 := blk_cell n1 (i := 4) (v := .int .u32 lf) rfl
  have j5 := blk_cell n1 (i := 5) (v := .int .u64 off) rfl
  have j6 := blk_cell n1 (i := 6) (v := .int .u32 xof) rfl
  have j7 := blk_cell n1 (i := 7) (v := .int .i64 nd) rfl
  have j8 := blk_cell n1 (i := 8) (v := .int .i64 inn) rfl
  have j9 := blk_cell n1 (i := 9) (v := .slice sa' sl' sc') rfl
  have j10 := blk_cell n1 (i := 10) (v := .slice ta' tl' tc') rfl
  clear n0 n1
  generalize Value.agg #[.int .i64 d, .int .i64 k, .int .i64 f, .int .i64 dp, .int .u32 lf, .int .u64 off, .int .u32 xof, .int .i64 nd, .int .i64 inn, .slice sa sl sc, .slice ta tl tc] = V0
  generalize Value.agg #[.int .i64 d, .int .i64 k, .int .i64 f, .int .i64 dp, .int .u32 lf, .int .u64 off, .int .u32 xof, .int .i64 nd, .int .i64 inn, .slice sa' sl' sc', .slice ta' tl' tc'] = V1
  go_wp2_with fail
  refine (C1.out _ S1.out S3.out).mono ?_
  rintro e w1 ⟨rfl, q, rfl⟩
  have k9 : (W.drewN q).cell? ⟨w.heap.size, 10, none⟩ = some (.slice ta tl tc) := g10
  have k10 : (W.drewN q).cell? ⟨w.heap.size + 1, 10, none⟩ = some (.slice ta' tl' tc') := j10
  clear g0 g1 g2 g3 g4 g5 g6 g7 g8 g9 j0 j1 j2 j3 j4 j5 j6 j7 j8 j9
  cases y1
  · go_wp2_with fail
    go_ret
    exact ⟨rfl, below_drewN HB.out _⟩
  · go_wp2_with fail
    refine (C2.out _ (S2.out.drewN q) (S4.out.drewN q)).mono ?_
    rintro e w1 ⟨rfl, q', rfl⟩
    go_wp2_with fail
    go_ret
    exact ⟨rfl, below_drewN HB.out _⟩
theorem ralikeP (d k f dp lf off xof nd inn d' k' f' dp' lf' off' xof' nd' inn' : Int) (sa ta sa' ta' : Option Addr) (sc tc sc' tc' : Nat) (s t s' t' : List Int) (w : World)
    (r1 : Row w sa s) (r2 : Row w ta t) (r3 : Row w sa' s') (r4 : Row w ta' t') (m1 : s.length ≤ maxLen) (m2 : t.length ≤ maxLen) (m3 : s'.length ≤ maxLen) (m4 : t'.length ≤ maxLen) :
    Calls Try.prog 41 #[.agg (pc d k f dp lf off xof nd inn (.slice sa s.length sc) (.slice ta t.length tc)), .agg (pc d' k' f' dp' lf' off' xof' nd' inn' (.slice sa' s'.length sc') (.slice ta' t'.length tc'))] w fun e w' =>
      e = .returned (.bool (decide (d = d' ∧ k = k' ∧ f = f' ∧ dp = dp' ∧ lf = lf' ∧ off = off' ∧ xof = xof' ∧ nd = nd' ∧ inn = inn' ∧ s = s' ∧ t = t'))) ∧ Below w.heap.size w w' := by
  by_cases q0 : d = d'
  case neg =>
    rw [decide_eq_false (fun h => q0 h.1)]
    exact ralikeN0 d k f dp lf off xof nd inn d' k' f' dp' lf' off' xof' nd' inn' sa ta sa' ta' _ _ _ _ sc tc sc' tc' w q0
  subst q0
  by_cases q1 : k = k'
  case neg =>
    rw [decide_eq_false (fun h => q1 h.2.1)]
    exact ralikeN1 d k f dp lf off xof nd inn k' f' dp' lf' off' xof' nd' inn' sa ta sa' ta' _ _ _ _ sc tc sc' tc' w q1
  subst q1
  by_cases q2 : f = f'
  case neg =>
    rw [decide_eq_false (fun h => q2 h.2.2.1)]
    exact ralikeN2 d k f dp lf off xof nd inn f' dp' lf' off' xof' nd' inn' sa ta sa' ta' _ _ _ _ sc tc sc' tc' w q2
  subst q2
  by_cases q3 : dp = dp'
  case neg =>
    rw [decide_eq_false (fun h => q3 h.2.2.2.1)]
    exact ralikeN3 d k f dp lf off xof nd inn dp' lf' off' xof' nd' inn' sa ta sa' ta' _ _ _ _ sc tc sc' tc' w q3
  subst q3
  by_cases q4 : lf = lf'
  case neg =>
    rw [decide_eq_false (fun h => q4 h.2.2.2.2.1)]
    exact ralikeN4 d k f dp lf off xof nd inn lf' off' xof' nd' inn' sa ta sa' ta' _ _ _ _ sc tc sc' tc' w q4
  subst q4
  by_cases q5 : off = off'
  case neg =>
    rw [decide_eq_false (fun h => q5 h.2.2.2.2.2.1)]
    exact ralikeN5 d k f dp lf off xof nd inn off' xof' nd' inn' sa ta sa' ta' _ _ _ _ sc tc sc' tc' w q5
  subst q5
  by_cases q6 : xof = xof'
  case neg =>
    rw [decide_eq_false (fun h => q6 h.2.2.2.2.2.2.1)]
    exact ralikeN6 d k f dp lf off xof nd inn xof' nd' inn' sa ta sa' ta' _ _ _ _ sc tc sc' tc' w q6
  subst q6
  by_cases q7 : nd = nd'
  case neg =>
    rw [decide_eq_false (fun h => q7 h.2.2.2.2.2.2.2.1)]
    exact ralikeN7 d k f dp lf off xof nd inn nd' inn' sa ta sa' ta' _ _ _ _ sc tc sc' tc' w q7
  subst q7
  by_cases q8 : inn = inn'
  case neg =>
    rw [decide_eq_false (fun h => q8 h.2.2.2.2.2.2.2.2.1)]
    exact ralikeN8 d k f dp lf off xof nd inn inn' sa ta sa' ta' _ _ _ _ sc tc sc' tc' w q8
  subst q8
  have h := ralikeB d k f dp lf off xof nd inn sa ta sa' ta' sc tc sc' tc' s t s' t' w r1 r2 r3 r4 m1 m2 m3 m4
  rw [show (decide (s = s') && decide (t = t')) = decide (d = d ∧ k = k ∧ f = f ∧ dp = dp ∧ lf = lf ∧ off = off ∧ xof = xof ∧ nd = nd ∧ inn = inn ∧ s = s' ∧ t = t') by simp] at h
  exact h
end LW
end Go.Proofs.Ytomdplcmbcjkfaa
