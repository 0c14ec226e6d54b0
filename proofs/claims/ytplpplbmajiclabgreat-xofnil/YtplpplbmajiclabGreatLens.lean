/-
  What the calls checkLength, checkField (the program), sized and place (the document) give.
-/
import Derived.Test.YtplpplbmajiclabGreatPlace
namespace Go.Proofs.YtplpplbmajiclabGreat
open Go.RowKit
set_option linter.unusedVariables false
namespace LW
open Words
/-- The error of a block's length. -/
def cl (kd : Int) (n : Nat) : Int := if kd ≠ 1 ∧ kd ≠ 2 then 1 else if (n : Int) < mo kd then 3 else if mo kd < (n : Int) then 2 else 0
/-- The error of a block and a field. -/
def cf (kd : Int) (n : Nat) (f : Int) : Int := if cl kd n ≠ 0 then cl kd n else if f < 1 ∨ 9 < f then 1 else 0
theorem lens (kd : Int) : (kd ≠ 1 ∧ kd ≠ 2 ∧ mo kd = 0 ∧ ke kd = 1) ∨ (¬ (kd ≠ 1 ∧ kd ≠ 2) ∧ ¬ mo kd = 0 ∧ ke kd = 0) := by
  rcases kinds kd with rfl | rfl | ⟨h1, h2⟩
  · exact .inr ⟨by omega, by decide, by decide⟩
  · exact .inr ⟨by omega, by decide, by decide⟩
  · exact .inl ⟨h1, h2, by simp [mo, h1, h2], by simp [ke, h1, h2]⟩
set_option maxHeartbeats 1000000 in
theorem checkLength (kd : Int) (a : Option Addr) (n cap : Nat) (w : World) :
    Calls Tryz.prog 88 #[.int .i64 kd, .slice a n cap] w fun e w' => e = .returned (.int .i64 (cl kd n)) ∧ Below w.heap.size w w' := by
  have h := fun W => size kd W
  obtain ⟨r, hr⟩ : ∃ r, cl kd n = r := ⟨_, rfl⟩
  rw [hr]
  rcases lens kd with ⟨h1, h2, em, e0⟩ | ⟨h1, em, e0⟩
  · simp only [cl, h1, h2, ne_eq, not_false_eq_true, and_self, if_true] at hr
    rw [e0] at h
    have H := TW.hide h
    clear h h1 h2
    go_enter Tryz.func88, Tryz.ntmps88
    go_wp2_with fail
    refine (H.out _).mono ?_
    rintro e w1 ⟨rfl, hb⟩
    have HB := TW.hide hb
    clear hb
    go_wp2_with fail
    go_ret
    exact ⟨TW.ret_int rfl, HB.out⟩
  · simp only [cl, h1, if_false] at hr
    rw [e0] at h
    generalize mo kd = m at *
    have H := TW.hide h
    clear h h1
    have c3 : (decide ((n : Int) < m) = true ∧ r = 3) ∨ (decide ((n : Int) < m) = false ∧ decide (m < (n : Int)) = true ∧ r = 2) ∨ (decide ((n : Int) < m) = false ∧ decide (m < (n : Int)) = false ∧ r = 0) := by
      by_cases g1 : (n : Int) < m
      · exact .inl ⟨by simp [g1], by simp [g1] at hr; omega⟩
      · by_cases g2 : m < (n : Int)
        · exact .inr (.inl ⟨by simp; omega, by simp [g2], by simp [g1, g2] at hr; omega⟩)
        · exact .inr (.inr ⟨by simp; omega, by simp; omega, by simp [g1, g2] at hr; omega⟩)
    clear hr
    rcases c3 with ⟨c3, rfl⟩ | ⟨c3, c4, rfl⟩ | ⟨c3, c4, rfl⟩
    all_goals
      go_enter Tryz.func88, Tryz.ntmps88
      go_wp2_with fail
      refine (H.out _).mono ?_
      rintro e w1 ⟨rfl, hb⟩
      have HB := TW.hide hb
      clear hb
      go_wp2_with fail
      go_ret
      exact ⟨rfl, HB.out⟩
set_option maxHeartbeats 1000000 in
theorem checkField (kd : Int) (a : Option Addr) (n cap : Nat) (f : Int) (w : World) :
    Calls Tryz.prog 85 #[.int .i64 kd, .slice a n cap, .int .i64 f] w fun e w' => e = .returned (.int .i64 (cf kd n f)) ∧ Below w.heap.size w w' := by
  have h := fun W => checkLength kd a n cap W
  have HO := TW.hide (outside f 1 9)
  unfold cf
  generalize cl kd n = c at *
  have H := TW.hide h
  clear h
  by_cases hc : c = 0
  · subst hc
    by_cases hf : f < 1 ∨ 9 < f
    · have b : (decide (f < 1) || decide (9 < f)) = true := by simpa using hf
      rw [if_neg (by omega), if_pos hf]
      go_enter Tryz.func85, Tryz.ntmps85
      go_wp2_with fail
      refine (H.out _).mono ?_
      rintro e w1 ⟨rfl, hb⟩
      have HB := TW.hide hb
      clear hb
      go_wp2_with fail
      refine (HO.out _).mono ?_
      rintro e w1 ⟨rfl, rfl⟩
      go_wp2_with fail
      go_ret
      exact ⟨rfl, HB.out⟩
    · have b : (decide (f < 1) || decide (9 < f)) = false := by simp; omega
      rw [if_neg (by omega), if_neg hf]
      go_enter Tryz.func85, Tryz.ntmps85
      go_wp2_with fail
      refine (H.out _).mono ?_
      rintro e w1 ⟨rfl, hb⟩
      have HB := TW.hide hb
      clear hb
      go_wp2_with fail
      refine (HO.out _).mono ?_
      rintro e w1 ⟨rfl, rfl⟩
      go_wp2_with fail
      go_ret
      exact ⟨rfl, HB.out⟩
  · have b : (c != 0) = true := by simp [hc]
    rw [if_pos hc]
    go_enter Tryz.func85, Tryz.ntmps85
    go_wp2_with fail
    refine (H.out _).mono ?_
    rintro e w1 ⟨rfl, hb⟩
    have HB := TW.hide hb
    clear hb
    go_wp2_with fail
    go_ret
    exact ⟨rfl, HB.out⟩
end LW
end Go.Proofs.YtplpplbmajiclabGreat
