/-
  What the calls holds and placeOf give.
-/
import Derived.Test.YtomdplcmbcjkfaaSmall
namespace Go.Proofs.Ytomdplcmbcjkfaa
open Go.RowKit
set_option linter.unusedVariables false
namespace LW
open Words
theorem div_zero_iff (n : Int) (m : Nat) (hn : 0 ≤ n) : n / 2 ^ m = 0 ↔ n < 2 ^ m := by
  have hp : (0 : Int) < 2 ^ m := Int.pow_pos (by decide)
  constructor
  · intro h
    have := Int.emod_lt_of_pos n hp
    have h2 := Int.mul_ediv_add_emod n (2 ^ m)
    rw [h] at h2
    simp at h2
    omega
  · intro h; exact Int.ediv_eq_zero_of_lt hn h
theorem holdsFact (n : Int) (sz : Nat) (hn : 0 ≤ n) (hn' : n < 18446744073709551616) : (n / 2 ^ min (8 * (sz : Int)).toNat IntKind.u64.bits == 0) = decide (n < 2 ^ (8 * sz)) := by
  have e : IntKind.u64.bits = 64 := rfl
  have e2 : (8 * (sz : Int)).toNat = 8 * sz := by omega
  rw [e, e2, Bool.eq_iff_iff]
  simp only [beq_iff_eq, decide_eq_true_eq]
  rw [div_zero_iff _ _ hn]
  by_cases h : 8 * sz ≤ 64
  · rw [Nat.min_eq_left h]
  · rw [Nat.min_eq_right (by omega)]
    have h64 : (2 : Int) ^ 64 = 18446744073709551616 := by decide
    have hle : (2 : Int) ^ 64 ≤ 2 ^ (8 * sz) := by
      have := Nat.pow_le_pow_right (n := 2) (by omega) (show 64 ≤ 8 * sz by omega)
      exact_mod_cast this
    omega
theorem holds (at_ n : Int) (sz : Nat) (w : World) (h2 : sz ≤ 16) (hn : 0 ≤ n) (hn' : n < 18446744073709551616) :
    Calls Try.prog 31 #[.agg #[.int .i64 at_, .int .i64 sz], .int .u64 n] w fun e w' => e = .returned (.bool (decide (n < 2 ^ (8 * sz)))) ∧ Below w.heap.size w w' := by
  have hsh : Op.shift .shr .u64 n .i64 (8 * (sz : Int)) = pure (.int .u64 (n / 2 ^ min (8 * (sz : Int)).toNat IntKind.u64.bits)) := shift_shr_any _ _ _ _ (by omega)
  have hf := holdsFact n sz hn hn'
  generalize n / 2 ^ min (8 * (sz : Int)).toNat IntKind.u64.bits = q at *
  generalize decide (n < 2 ^ (8 * sz)) = b at *
  go_enter Try.func31, Try.ntmps31
  go_wp2
  go_ret
  exact ⟨rfl, (Below.refl _ _).alloc (Nat.le_refl _) _⟩
/-- How many bytes a field has in one of the forms. -/
def pSz (k f : Int) (x : Bool) : Int := if f = 6 ∧ x = true then 4 else if f = 7 ∧ x = false then 0 else rSz k f
set_option maxHeartbeats 1000000 in
theorem placeOf (f k : Int) (x : Bool) (w : World) (h1 : 1 ≤ f) (h2 : f ≤ 11) : Calls Try.prog 21 #[.int .i64 f, .int .i64 k, .bool x] w fun e w' => e = .returned (.agg #[.int .i64 (rAt k f), .int .i64 (pSz k f x)]) ∧ Below w.heap.size w w' := by
  have H := TW.hide (fun W => whole f k W h1 h2)
  have hp : (f = 6 ∧ x = true ∧ pSz k f x = 4) ∨ (f = 7 ∧ x = false ∧ pSz k f x = 0) ∨ (¬ (f = 6 ∧ x = true) ∧ ¬ (f = 7 ∧ x = false) ∧ pSz k f x = rSz k f) := by
    unfold pSz
    split
    · simp_all
    · split <;> simp_all
  rcases hp with ⟨rfl, rfl, hp⟩ | ⟨rfl, rfl, hp⟩ | ⟨n1, n2, hp⟩
  · rw [hp]
    generalize rAt k 6 = x1 at *
    generalize rSz k 6 = x2 at *
    go_enter Try.func21, Try.ntmps21
    go_wp2_with fail
    refine (H.out _).mono ?_
    rintro e w1 ⟨rfl, hb⟩
    obtain ⟨hc0, hc1, hf0, hf1⟩ := cell_two hb
    have hs : w.heap.size < w1.heap.size := by have := hb.size; simp at this; omega
    have hne : w.heap.size ≠ w1.heap.size := by omega
    have hne' : w1.heap.size ≠ w.heap.size := by omega
    have HB := TW.hide hb
    have HN := TW.hide (blk_new hb)
    clear hb
    go_wp2_with fail
    refine bodyPost_ret (v := .agg #[.int .i64 x1, .int .i64 4]) (results_cell_row (P := Try.prog) Try.results21 _ _ w.heap.size 52 _ (0, 0) _ rfl (blk_alloc (blk_set (blk_set HN.out))) Try.underlying52 rfl (by kernel_rfl)) rfl ⟨rfl, ?_⟩
    have h0 := (((Below.refl _ _).alloc (Nat.le_refl _) _).trans (HB.out.mono (by simp)))
    exact ((h0.setCell (Nat.le_refl _) _).setCell (Nat.le_refl _) _).alloc (by simp; omega) _
  · rw [hp]
    generalize rAt k 7 = x1 at *
    generalize rSz k 7 = x2 at *
    go_enter Try.func21, Try.ntmps21
    go_wp2_with fail
    refine (H.out _).mono ?_
    rintro e w1 ⟨rfl, hb⟩
    obtain ⟨hc0, hc1, hf0, hf1⟩ := cell_two hb
    have hs : w.heap.size < w1.heap.size := by have := hb.size; simp at this; omega
    have hne : w.heap.size ≠ w1.heap.size := by omega
    have hne' : w1.heap.size ≠ w.heap.size := by omega
    have HB := TW.hide hb
    have HN := TW.hide (blk_new hb)
    clear hb
    go_wp2_with fail
    refine bodyPost_ret (v := .agg #[.int .i64 x1, .int .i64 0]) (results_cell_row (P := Try.prog) Try.results21 _ _ w.heap.size 52 _ (0, 0) _ rfl (blk_alloc (blk_set (blk_set HN.out))) Try.underlying52 rfl (by kernel_rfl)) rfl ⟨rfl, ?_⟩
    have h0 := (((Below.refl _ _).alloc (Nat.le_refl _) _).trans (HB.out.mono (by simp)))
    exact ((h0.setCell (Nat.le_refl _) _).setCell (Nat.le_refl _) _).alloc (by simp; omega) _
  · rw [hp]
    generalize rAt k f = x1 at *
    generalize rSz k f = x2 at *
    have c6 : f = 6 ∨ (f == 6) = false := by by_cases h : f = 6 <;> simp [h]
    have c7 : f = 7 ∨ (f == 7) = false := by by_cases h : f = 7 <;> simp [h]
    rcases c6 with rfl | c6
    · obtain rfl : x = false := by cases x <;> simp_all
      clear c7 n1 n2 hp
      go_enter Try.func21, Try.ntmps21
      go_wp2_with fail
      refine (H.out _).mono ?_
      rintro e w1 ⟨rfl, hb⟩
      obtain ⟨hc0, hc1, hf0, hf1⟩ := cell_two hb
      have hs : w.heap.size < w1.heap.size := by have := hb.size; simp at this; omega
      have hne : w.heap.size ≠ w1.heap.size := by omega
      have hne' : w1.heap.size ≠ w.heap.size := by omega
      have HB := TW.hide hb
      have HN := TW.hide (blk_new hb)
      clear hb
      go_wp2_with fail
      refine bodyPost_ret (v := .agg #[.int .i64 x1, .int .i64 x2]) (results_cell_row (P := Try.prog) Try.results21 _ _ w.heap.size 52 _ (0, 0) _ rfl (blk_alloc (blk_set (blk_set HN.out))) Try.underlying52 rfl (by kernel_rfl)) rfl ⟨rfl, ?_⟩
      have h0 := (((Below.refl _ _).alloc (Nat.le_refl _) _).trans (HB.out.mono (by simp)))
      exact ((h0.setCell (Nat.le_refl _) _).setCell (Nat.le_refl _) _).alloc (by simp; omega) _
    · rcases c7 with rfl | c7
      · obtain rfl : x = true := by cases x <;> simp_all
        clear c6 n1 n2 hp
        go_enter Try.func21, Try.ntmps21
        go_wp2_with fail
        refine (H.out _).mono ?_
        rintro e w1 ⟨rfl, hb⟩
        obtain ⟨hc0, hc1, hf0, hf1⟩ := cell_two hb
        have hs : w.heap.size < w1.heap.size := by have := hb.size; simp at this; omega
        have hne : w.heap.size ≠ w1.heap.size := by omega
        have hne' : w1.heap.size ≠ w.heap.size := by omega
        have HB := TW.hide hb
        have HN := TW.hide (blk_new hb)
        clear hb
        go_wp2_with fail
        refine bodyPost_ret (v := .agg #[.int .i64 x1, .int .i64 x2]) (results_cell_row (P := Try.prog) Try.results21 _ _ w.heap.size 52 _ (0, 0) _ rfl (blk_alloc (blk_set (blk_set HN.out))) Try.underlying52 rfl (by kernel_rfl)) rfl ⟨rfl, ?_⟩
        have h0 := (((Below.refl _ _).alloc (Nat.le_refl _) _).trans (HB.out.mono (by simp)))
        exact ((h0.setCell (Nat.le_refl _) _).setCell (Nat.le_refl _) _).alloc (by simp; omega) _
      · clear n1 n2 hp
        go_enter Try.func21, Try.ntmps21
        go_wp2_with fail
        refine (H.out _).mono ?_
        rintro e w1 ⟨rfl, hb⟩
        obtain ⟨hc0, hc1, hf0, hf1⟩ := cell_two hb
        have hs : w.heap.size < w1.heap.size := by have := hb.size; simp at this; omega
        have hne : w.heap.size ≠ w1.heap.size := by omega
        have hne' : w1.heap.size ≠ w.heap.size := by omega
        have HB := TW.hide hb
        have HN := TW.hide (blk_new hb)
        clear hb
        go_wp2_with fail
        refine bodyPost_ret (v := .agg #[.int .i64 x1, .int .i64 x2]) (results_cell_row (P := Try.prog) Try.results21 _ _ w.heap.size 52 _ (0, 0) _ rfl (blk_alloc (blk_set (blk_set HN.out))) Try.underlying52 rfl (by kernel_rfl)) rfl ⟨rfl, ?_⟩
        have h0 := (((Below.refl _ _).alloc (Nat.le_refl _) _).trans (HB.out.mono (by simp)))
        exact ((h0.setCell (Nat.le_refl _) _).setCell (Nat.le_refl _) _).alloc (by simp; omega) _
end LW
end Go.Proofs.Ytomdplcmbcjkfaa
