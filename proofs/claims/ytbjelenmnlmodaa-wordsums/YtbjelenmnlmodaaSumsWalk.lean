/-
  The walk of WordSums: it returns true for every count and both numbers.
-/
import Derived.Test.YtbjelenmnlmodaaAdd
import Derived.Below
namespace Go.Proofs.Ytbjelenmnlmodaa
open Go.RowKit
namespace AW
theorem ret_bool {a b : Bool} (h : a = b) : Ending.returned (.bool a) = .returned (.bool b) := by rw [h]
theorem w64_max : W64 18446744073709551615 := by unfold W64; omega
theorem w64_0 : W64 0 := by unfold W64; omega
theorem w64_1 : W64 1 := by unfold W64; omega
set_option maxHeartbeats 1000000 in
theorem sums (lo hi n m : Int) (w : World) (h1 : W64 lo) (h2 : W64 hi) (h3 : W64 n) (h4 : W64 m) :
    Calls Try.prog 8 #[.agg #[.int .u64 lo, .int .u64 hi], .int .u64 n, .int .u64 m] w fun e w' => e = .returned (.bool true) ∧ Below w.heap.size w w' := by
  have c1 : sLo 18446744073709551615 1 = 0 := by decide
  have c2 : sHi 18446744073709551615 0 1 = 1 := by decide
  have c3 : sOv 18446744073709551615 0 1 = false := by decide
  have g1 := sLo_bd lo n
  have g2 := sLo_bd lo m
  have g3 := sHi_bd lo hi n
  have g4 := sHi_bd lo hi m
  have e1 : sLo (sLo lo n) m = sLo (sLo lo m) n := by unfold sLo; omega
  have e2 : sHi (sLo lo n) (sHi lo hi n) m = sHi (sLo lo m) (sHi lo hi m) n := by unfold sHi sC sLo; unfold W64 at *; omega
  have e3 : (sOv lo hi n || sOv (sLo lo n) (sHi lo hi n) m) = (sOv lo hi m || sOv (sLo lo m) (sHi lo hi m) n) := by
    rw [Bool.eq_iff_iff]; simp only [sOv, Bool.or_eq_true, decide_eq_true_eq]; unfold sO sHi sC sLo; unfold W64 at *; omega
  have a1 := fun W => add lo hi n W h1 h2 h3
  have a2 := fun W => add lo hi m W h1 h2 h4
  have a3 := fun W => add _ _ m W g1 g3 h4
  have a4 := fun W => add _ _ n W g2 g4 h3
  have a0 := fun W => add 18446744073709551615 0 1 W w64_max w64_0 w64_1
  rw [c1, c2, c3] at a0
  generalize sLo (sLo lo n) m = p1 at *
  generalize sLo (sLo lo m) n = p2 at *
  generalize sHi (sLo lo n) (sHi lo hi n) m = q1 at *
  generalize sHi (sLo lo m) (sHi lo hi m) n = q2 at *
  generalize sOv (sLo lo n) (sHi lo hi n) m = v1 at *
  generalize sOv (sLo lo m) (sHi lo hi m) n = v2 at *
  generalize sOv lo hi n = v3 at *
  generalize sOv lo hi m = v4 at *
  generalize sLo lo n = x1 at *
  generalize sLo lo m = x2 at *
  generalize sHi lo hi n = y1 at *
  generalize sHi lo hi m = y2 at *
  subst e1 e2
  clear h1 h2 h3 h4 g1 g2 g3 g4 c1 c2 c3
  have A0 := TW.hide a0
  have A1 := TW.hide a1
  have A2 := TW.hide a2
  have A3 := TW.hide a3
  have A4 := TW.hide a4
  clear a0 a1 a2 a3 a4
  go_enter Try.func8, Try.ntmps8
  go_wp2_with fail
  refine (A0.out _).mono ?_
  rintro e w1 ⟨rfl, rfl⟩
  go_wp2_with fail
  refine (A1.out _).mono ?_
  rintro e w1 ⟨rfl, rfl⟩
  go_wp2_with fail
  refine (A3.out _).mono ?_
  rintro e w1 ⟨rfl, rfl⟩
  go_wp2_with fail
  refine (A2.out _).mono ?_
  rintro e w1 ⟨rfl, rfl⟩
  go_wp2_with fail
  refine (A4.out _).mono ?_
  rintro e w1 ⟨rfl, rfl⟩
  go_wp2_with fail
  all_goals
    go_ret
    clear A0 A1 A2 A3 A4
    refine ⟨ret_bool ?_, ?_⟩
    · simp_all
    · repeat' (first | exact Below.refl _ _ | refine Below.alloc ?_ (by simp <;> omega) _)
end AW
end Go.Proofs.Ytbjelenmnlmodaa
