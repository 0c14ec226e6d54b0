/-
  What the calls Add (the program's, over the library's Add64) and Add (the document's answer) give, for every count and every number.
-/
import Derived.Test.YtbjelenmnlmodaaChecked
import Derived.Test.YtbjelenmnlmodaaTurnWalks
import Derived.WalkKit
import Derived.WalkLawsBesides
import Derived.Laws.Externs
import Derived.Laws.Bits64
namespace Go.Proofs.Ytbjelenmnlmodaa
open Go.RowKit
namespace AW
def sLo (lo n : Int) : Int := (lo + n) % 18446744073709551616
def sC (lo n : Int) : Int := (lo + n) / 18446744073709551616
def sHi (lo hi n : Int) : Int := (hi + sC lo n) % 18446744073709551616
def sO (lo hi n : Int) : Int := (hi + sC lo n) / 18446744073709551616
def sOv (lo hi n : Int) : Bool := decide (sO lo hi n = 1)

/-- A number of 64 bits. -/
def W64 (x : Int) : Prop := 0 ≤ x ∧ x < 18446744073709551616

theorem sLo_bd (lo n : Int) : W64 (sLo lo n) := by unfold sLo W64; omega
theorem sHi_bd (lo hi n : Int) : W64 (sHi lo hi n) := by unfold sHi W64; omega
theorem sC_bd (lo n : Int) (h1 : W64 lo) (h2 : W64 n) : 0 ≤ sC lo n ∧ sC lo n ≤ 1 := by unfold sC; unfold W64 at *; omega
theorem sO_bd (lo hi n : Int) (h1 : W64 lo) (h2 : W64 hi) (h3 : W64 n) : sO lo hi n = 0 ∨ sO lo hi n = 1 := by
  have := sC_bd lo n h1 h3
  unfold sO; unfold W64 at *; omega

theorem add64 (x y c : Int) (w : World) (hx : 0 ≤ x) (hy : 0 ≤ y) (hc0 : 0 ≤ c) (hc : c ≤ 1) :
    (callFunc 31 #[.int .u64 x, .int .u64 y, .int .u64 c]).run Try.prog w =
      .ok (.value (.tuple #[.int .u64 ((x + y + c) % 18446744073709551616), .int .u64 ((x + y + c) / 18446744073709551616)])) w := by
  rw [run_callFunc_extern Try.func31 (by kernel_rfl) (by kernel_rfl) (by kernel_rfl) (e := add64Entry) (by kernel_rfl), run_add64 x y c hx hy hc0 hc]
  rfl
theorem first (lo n : Int) (w : World) (h1 : W64 lo) (h2 : W64 n) :
    (callFunc 31 #[.int .u64 lo, .int .u64 n, .int .u64 0]).run Try.prog w = .ok (.value (.tuple #[.int .u64 (sLo lo n), .int .u64 (sC lo n)])) w := by
  rw [add64 lo n 0 w h1.1 h2.1 (by omega) (by omega), Int.add_zero]; rfl
theorem second (lo hi n : Int) (w : World) (h1 : W64 lo) (h2 : W64 hi) (h3 : W64 n) :
    (callFunc 31 #[.int .u64 hi, .int .u64 0, .int .u64 (sC lo n)]).run Try.prog w = .ok (.value (.tuple #[.int .u64 (sHi lo hi n), .int .u64 (sO lo hi n)])) w := by
  have := sC_bd lo n h1 h3
  rw [add64 hi 0 (sC lo n) w h2.1 (by omega) (by omega) (by omega), Int.add_zero]; rfl

/-- The program's Add. -/
theorem add (lo hi n : Int) (w : World) (h1 : W64 lo) (h2 : W64 hi) (h3 : W64 n) :
    Calls Try.prog 22 #[.agg #[.int .u64 lo, .int .u64 hi], .int .u64 n] w fun e w' =>
      e = .returned (.tuple #[.agg #[.int .u64 (sLo lo n), .int .u64 (sHi lo hi n)], .bool (sOv lo hi n)]) ∧
        (w.alloc (.cells #[.int .u64 lo, .int .u64 hi] 46)).alloc (.cells #[.int .u64 (sLo lo n), .int .u64 (sHi lo hi n)] 46) = w' := by
  have f1 := fun W => first lo n W h1 h3
  have f2 := fun W => second lo hi n W h1 h2 h3
  have ho : (sO lo hi n != 0) = sOv lo hi n := by
    unfold sOv
    rcases sO_bd lo hi n h1 h2 h3 with h | h <;> rw [h] <;> rfl
  generalize sLo lo n = s at *
  generalize sHi lo hi n = t at *
  generalize sC lo n = c at *
  generalize sOv lo hi n = v at *
  generalize sO lo hi n = o at *
  clear h1 h2 h3
  go_enter Try.func22, Try.ntmps22
  go_wp2
  refine bodyPost_ret (v := .tuple #[.agg #[.int .u64 s, .int .u64 t], .bool v]) (by simp [results, Try.results22, go_sem]) rfl ⟨rfl, rfl⟩

/-- The document's Add. -/
theorem radd (lo hi n : Int) (w : World) (h1 : W64 lo) (h2 : W64 hi) (h3 : W64 n) :
    Calls Try.prog 23 #[.int .u64 lo, .int .u64 hi, .int .u64 n] w fun e w' =>
      e = .returned (.tuple #[.int .u64 (sLo lo n), .int .u64 (sHi lo hi n), .bool (sOv lo hi n)]) ∧ w = w' := by
  have f1 : IntKind.u64.wrap (lo + n) = sLo lo n := by rw [IntKind.wrap_u64]; rfl
  have hw : ∀ x : Int, IntKind.u64.wrap x = x % 18446744073709551616 := IntKind.wrap_u64
  by_cases hc : lo ≤ sLo lo n
  · have e2 : sHi lo hi n = hi := by unfold sHi sC; unfold W64 sLo at *; omega
    have e3 : sOv lo hi n = false := by unfold sOv sO sC; unfold W64 sLo at *; simp; omega
    rw [e2, e3]
    generalize sLo lo n = s at *
    clear h1 h2 h3 hw e2 e3
    go_enter Try.func23, Try.ntmps23
    go_wp2
    go_ret3
    exact ⟨rfl, rfl⟩
  · have e2 : IntKind.u64.wrap (hi + 1) = sHi lo hi n := by rw [hw]; unfold sHi sC; unfold W64 sLo at *; omega
    have e3 : (sHi lo hi n == 0) = sOv lo hi n := by
      have : sHi lo hi n = 0 ↔ sO lo hi n = 1 := by unfold sHi sO sC; unfold W64 sLo at *; omega
      unfold sOv; rw [Bool.eq_iff_iff]; simp [this]
    generalize sLo lo n = s at *
    generalize sHi lo hi n = t at *
    generalize sOv lo hi n = v at *
    clear h1 h2 h3 hw
    go_enter Try.func23, Try.ntmps23
    go_wp2
    go_ret3
    exact ⟨rfl, rfl⟩
end AW
end Go.Proofs.Ytbjelenmnlmodaa
