/-
  What the calls checkLength, checkField (the program), sized and place (the document) give.
-/
import Derived.Test.YtomdplcmbcjkfaaPlace
namespace Go.Proofs.Ytomdplcmbcjkfaa
open Go.RowKit
set_option linter.unusedVariables false
namespace LW
open Words
/-- The error of a block's length. -/
def cl (kd : Int) (n : Nat) : Int := if kd ≠ 1 ∧ kd ≠ 2 then 1 else if (n : Int) < mo kd then 3 else if mo kd < (n : Int) then 2 else 0
/-- The error of a block and a field. -/
def cf (kd : Int) (n : Nat) (f : Int) : Int := if cl kd n ≠ 0 then cl kd n else if f < 1 ∨ 9 < f then 1 else 0
theorem lens (kd : Int) : (kd ≠ 1 ∧ kd ≠ 2 ∧ mo kd = 0 ∧ ke kd = 1) ∨ (¬ (kd ≠ 1 ∧ kd ≠ 2) ∧ ¬ mo kd = 0 ∧ ke kd = 0) := by
  rcases kinds kd with rfl | rfl | ⟨h1, h2⟩
  · exact .inr ⟨by omega, by decide, by decide⟩
  · exact .inr ⟨by omega, by decide, by decide⟩
  · exact .inl ⟨h1, h2, by simp [mo, h1, h2], by simp [ke, h1, h2]⟩
set_option maxHeartbeats 1000000 in
theorem checkLength (kd : Int) (a : Option Addr) (n cap : Nat) (w : World) :
    Calls Try.prog 26 #[.int .i64 kd, .slice a n cap] w fun e w' => e = .returned (.int .i64 (cl kd n)) ∧ Below w.heap.size w w' := by
  have h := fun W => size kd W
  obtain ⟨r, hr⟩ : ∃ r, cl kd n = r := ⟨_, rfl⟩
  rw [hr]
  rcases lens kd with ⟨h1, h2, em, e0⟩ | ⟨h1, em, e0⟩
  · simp only [cl, h1, h2, ne_eq, not_false_eq_true, and_self, if_true] at hr
    rw [e0] at h
    have H := TW.hide h
    clear h h1 h2
    go_enter Try.func26, Try.ntmps26
    go_wp2_with fail
    refine (H.out _).mono ?_
    rintro e w1 ⟨rfl, hb⟩
    have HB := TW.hide hb
    clear hb
    go_wp2_with fail
    go_ret
    exact ⟨TW.ret_int rfl, HB.out⟩
  · simp only [cl, h1, if_false] at hr
    rw [e0] at h
    generalize mo kd = m at *
    have H := TW.hide h
    clear h h1
    have c3 : (decide ((n : Int) < m) = true ∧ r = 3) ∨ (decide ((n : Int) < m) = false ∧ decide (m < (n : Int)) = true ∧ r = 2) ∨ (decide ((n : Int) < m) = false ∧ decide (m < (n : Int)) = false ∧ r = 0) := by
      by_cases g1 : (n : Int) < m
      · exact .inl ⟨by simp [g1], by simp [g1] at hr; omega⟩
      · by_cases g2 : m < (n : Int)
        · exact .inr (.inl ⟨by simp; omega, by simp [g2], by simp [g1, g2] at hr; omega⟩)
        · exact .inr (.inr ⟨by simp; omega, by simp; omega, by simp [g1, g2] at hr; omega⟩)
    clear hr
    rcases c3 with ⟨c3, rfl⟩ | ⟨c3, c4, rfl⟩ | ⟨c3, c4, rfl⟩
    all_goals
      go_enter Try.func26, Try.ntmps26
      go_wp2_with fail
      refine (H.out _).mono ?_
      rintro e w1 ⟨rfl, hb⟩
      have HB := TW.hide hb
      clear hb
      go_wp2_with fail
      go_ret
      exact ⟨rfl, HB.out⟩
set_option maxHeartbeats 1000000 in
theorem sized (kd : Int) (a : Option Addr) (n cap : Nat) (w : World) :
    Calls Try.prog 37 #[.int .i64 kd, .slice a n cap] w fun e w' => e = .returned (.int .i64 (cl kd n)) ∧ w = w' := by
  have h := fun W => rmost kd W
  have h' := fun W => rsize kd W
  obtain ⟨r, hr⟩ : ∃ r, cl kd n = r := ⟨_, rfl⟩
  rw [hr]
  rcases lens kd with ⟨h1, h2, em, e0⟩ | ⟨h1, em, e0⟩
  · simp only [cl, h1, h2, ne_eq, not_false_eq_true, and_self, if_true] at hr
    rw [em] at h
    have H := TW.hide h
    clear h h' h1 h2
    go_enter Try.func37, Try.ntmps37
    go_wp2_with fail
    refine (H.out _).mono ?_
    rintro e w1 ⟨rfl, rfl⟩
    go_wp2_with fail
    go_ret
    exact ⟨TW.ret_int hr, rfl⟩
  · simp only [cl, h1, if_false] at hr
    generalize mo kd = m at *
    have H := TW.hide h
    have H' := TW.hide h'
    clear h h' h1
    have em' : (m == 0) = false := by simp [em]
    have c3 : (decide ((n : Int) < m) = true ∧ r = 3) ∨ (decide ((n : Int) < m) = false ∧ decide (m < (n : Int)) = true ∧ r = 2) ∨ (decide ((n : Int) < m) = false ∧ decide (m < (n : Int)) = false ∧ r = 0) := by
      by_cases g1 : (n : Int) < m
      · exact .inl ⟨by simp [g1], by simp [g1] at hr; omega⟩
      · by_cases g2 : m < (n : Int)
        · exact .inr (.inl ⟨by simp; omega, by simp [g2], by simp [g1, g2] at hr; omega⟩)
        · exact .inr (.inr ⟨by simp; omega, by simp; omega, by simp [g1, g2] at hr; omega⟩)
    clear hr em
    rcases c3 with ⟨c3, rfl⟩ | ⟨c3, c4, rfl⟩ | ⟨c3, c4, rfl⟩
    · go_enter Try.func37, Try.ntmps37
      go_wp2_with fail
      refine (H.out _).mono ?_
      rintro e w1 ⟨rfl, rfl⟩
      go_wp2_with fail
      refine (H'.out _).mono ?_
      rintro e w1 ⟨rfl, rfl⟩
      go_wp2_with fail
      go_ret
      exact ⟨rfl, rfl⟩
    all_goals
      go_enter Try.func37, Try.ntmps37
      go_wp2_with fail
      refine (H.out _).mono ?_
      rintro e w1 ⟨rfl, rfl⟩
      go_wp2_with fail
      refine (H'.out _).mono ?_
      rintro e w1 ⟨rfl, rfl⟩
      go_wp2_with fail
      refine (H'.out _).mono ?_
      rintro e w1 ⟨rfl, rfl⟩
      go_wp2_with fail
      go_ret
      exact ⟨rfl, rfl⟩
set_option maxHeartbeats 1000000 in
theorem checkField (kd : Int) (a : Option Addr) (n cap : Nat) (f : Int) (w : World) :
    Calls Try.prog 30 #[.int .i64 kd, .slice a n cap, .int .i64 f] w fun e w' => e = .returned (.int .i64 (cf kd n f)) ∧ Below w.heap.size w w' := by
  have h := fun W => checkLength kd a n cap W
  have HO := TW.hide (outside f 1 9)
  unfold cf
  generalize cl kd n = c at *
  have H := TW.hide h
  clear h
  by_cases hc : c = 0
  · subst hc
    by_cases hf : f < 1 ∨ 9 < f
    · have b : (decide (f < 1) || decide (9 < f)) = true := by simpa using hf
      rw [if_neg (by omega), if_pos hf]
      go_enter Try.func30, Try.ntmps30
      go_wp2_with fail
      refine (H.out _).mono ?_
      rintro e w1 ⟨rfl, hb⟩
      have HB := TW.hide hb
      clear hb
      go_wp2_with fail
      refine (HO.out _).mono ?_
      rintro e w1 ⟨rfl, rfl⟩
      go_wp2_with fail
      go_ret
      exact ⟨rfl, HB.out⟩
    · have b : (decide (f < 1) || decide (9 < f)) = false := by simp; omega
      rw [if_neg (by omega), if_neg hf]
      go_enter Try.func30, Try.ntmps30
      go_wp2_with fail
      refine (H.out _).mono ?_
      rintro e w1 ⟨rfl, hb⟩
      have HB := TW.hide hb
      clear hb
      go_wp2_with fail
      refine (HO.out _).mono ?_
      rintro e w1 ⟨rfl, rfl⟩
      go_wp2_with fail
      go_ret
      exact ⟨rfl, HB.out⟩
  · have b : (c != 0) = true := by simp [hc]
    rw [if_pos hc]
    go_enter Try.func30, Try.ntmps30
    go_wp2_with fail
    refine (H.out _).mono ?_
    rintro e w1 ⟨rfl, hb⟩
    have HB := TW.hide hb
    clear hb
    go_wp2_with fail
    go_ret
    exact ⟨rfl, HB.out⟩
set_option maxHeartbeats 1000000 in
theorem place (kd f : Int) (w : World) (hk : kd = 1 ∨ kd = 2) :
    Calls Try.prog 34 #[.int .i64 kd, .int .i64 f] w fun e w' => e = .returned (.tuple #[.int .i64 (if f < 1 ∨ 9 < f then 0 else rAt kd f), .int .i64 (if f < 1 ∨ 9 < f then 0 else rSz kd f)]) ∧ w = w' := by
  have hc : f = 1 ∨ f = 2 ∨ f = 3 ∨ f = 4 ∨ f = 5 ∨ f = 6 ∨ f = 7 ∨ f = 8 ∨ f = 9 ∨ (f < 1 ∨ 9 < f) := by omega
  rcases hk with rfl | rfl
  all_goals
    rcases hc with rfl | rfl | rfl | rfl | rfl | rfl | rfl | rfl | rfl | hf
    iterate 9
      · go_enter Try.func34, Try.ntmps34
        go_wp2
        go_ret2
        exact ⟨rfl, rfl⟩
    · rw [if_pos hf, if_pos hf]
      have b1 : decide (1 ≤ f) = false ∨ (decide (1 ≤ f) = true ∧ decide (f ≤ 4) = false) := by
        rcases hf with h | h
        · exact .inl (by simp; omega)
        · exact .inr ⟨by simp; omega, by simp; omega⟩
      have b5 : (f == 5) = false := by simp; omega
      have b6 : (f == 6) = false := by simp; omega
      have b7 : (f == 7) = false := by simp; omega
      have b8 : (f == 8) = false := by simp; omega
      have b9 : (f == 9) = false := by simp; omega
      clear hf
      rcases b1 with b1 | ⟨b1, b1'⟩
      all_goals
        go_enter Try.func34, Try.ntmps34
        go_wp2
        go_ret2
        exact ⟨rfl, rfl⟩
end LW
end Go.Proofs.Ytomdplcmbcjkfaa
