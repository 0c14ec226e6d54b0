/-
  The law on names.
-/
import Derived.Test.YtheifjakpdeiaaaPgX
namespace Go.Proofs.Ytheifjakpdeiaaa
open Go.RowKit
set_option linter.unusedVariables false
set_option linter.unusedSimpArgs false
namespace LW
open Mc
theorem rrest (n m : Int) (w : World) (hm : 0 < m) (hm2 : m < 1000) :
    Calls Try.prog 14 #[.int .i64 n, .int .i64 m] w fun e w' => e = .returned (.int .i64 (n % m)) ∧ w = w' := by
  have ht : n.tmod m = n % m ∨ n.tmod m = n % m - m ∧ 0 < n % m := by
    rw [Int.tmod_eq_emod]
    have := Int.emod_nonneg n (show m ≠ 0 by omega)
    have h3 : (m.natAbs : Int) = m := by omega
    split
    · left; omega
    · rename_i h
      right
      refine ⟨by omega, ?_⟩
      have : n % m ≠ 0 := fun h0 => h (.inr (Int.dvd_of_emod_eq_zero h0))
      omega
  have hl := Int.emod_nonneg n (show m ≠ 0 by omega)
  have hu := Int.emod_lt_of_pos n hm
  generalize hR : n % m = r at *
  clear hR
  go_enter Try.func14, Try.ntmps14
  go_wp2
  · go_ret
    exact ⟨TW.ret_int (by omega), rfl⟩
  · go_ret
    exact ⟨TW.ret_int (by omega), rfl⟩
set_option maxRecDepth 100000 in
set_option maxHeartbeats 4000000 in
theorem namesW (w : World) : Calls Try.prog 8 #[] w fun e w' => e = .returned (.bool true) ∧ Below w.heap.size w w' := by
  have hS : SyI w ⟨[], [], 0, 0, 0⟩ none none := ⟨⟨.inl rfl, .inl rfl⟩, by simp, by simp, fun p => by simp, fun p j => by simpa using iIns_0⟩
  have HV : Hid (Calls Try.prog 9 #[.agg #[.slice none 0 0, .slice none 0 0, .int .i64 0, .int .i64 0, .int .i64 0]] w fun e w' => e = .returned (.int .i64 130) ∧ Below w.heap.size w w') := by
    refine (pvalid ⟨[], [], 0, 0, 0⟩ none 0 none 0 w hS).mono ?_
    rintro e w' ⟨x, rfl, _, h2, hb⟩
    have : x = 130 := h2 (fun h => by have := h.p1; simp at this)
    exact ⟨by rw [this], hb⟩
  have HR : Hid (∀ W, Calls Try.prog 14 #[.int .i64 (-1), .int .i64 3] W fun e w' => e = .returned (.int .i64 2) ∧ W = w') := fun W => rrest (-1) 3 W (by decide) (by decide)
  clear hS
  go_enter Try.func8, Try.ntmps8
  go_wp2_with fail
  refine HV.out.mono ?_
  rintro e1 w1 ⟨rfl, hb⟩
  have HB := TW.hide hb
  clear hb HV
  go_wp2_with fail
  refine (HR.out _).mono ?_
  rintro e2 w2 ⟨rfl, rfl⟩
  go_wp2
  go_ret
  exact ⟨rfl, HB.out⟩
end LW
end Go.Proofs.Ytheifjakpdeiaaa
