/-
  Small numbers among the arguments.
-/
import Derived.Test.YtheifjakpdeiaaaArgs13
import Derived.Test.YtheifjakpdeiaaaRows
import Derived.Test.YtheifjakpdeiaaaSysV
import Derived.Deep.Slices
import Derived.SizedLaws
import Derived.ProofKit
import Derived.OpenShut
import Derived.ChangeOld
namespace Go.Proofs.Ytheifjakpdeiaaa
open Go.ChangeShapes Go.WideShapes Go.ChangeAt Go.RowKit Go.Deep
set_option linter.unusedVariables false
set_option linter.unusedSimpArgs false
namespace LW
open Mc
/-- Small numbers, wherever they lie. -/
def NR8 (W : World) (a : Option Addr) (xs : List Int) : Prop := xs = [] ∨ ∃ b off, a = some ⟨b, off, none⟩ ∧ ∀ j, j < xs.length → W.cell? ⟨b, off + j, none⟩ = some (.int .i8 (xs.getD j 0))
theorem NR8.below {w w' : World} {a : Option Addr} {xs : List Int} (h : NR8 w a xs) (hb : Below w.heap.size w w') : NR8 w' a xs := by
  rcases h with h | ⟨b, off, rfl, hc⟩
  · exact .inl h
  · exact .inr ⟨b, off, rfl, fun j hj => keepC hb (hc j hj)⟩
def i8 (z : Int) : Prop := -128 ≤ z ∧ z ≤ 127
theorem bounds_i8 {n : Int} (h : (Lit.int .i8 n).wf = true) : i8 n := by
  unfold i8
  simp [Lit.wf, IntKind.min, IntKind.max, IntKind.signed, IntKind.bits] at h
  omega
theorem bounds_i16 {n : Int} (h : (Lit.int .i16 n).wf = true) : -32768 ≤ n ∧ n ≤ 32767 := by
  simp [Lit.wf, IntKind.min, IntKind.max, IntKind.signed, IntKind.bits] at h
  omega
theorem cellsI8 : Try.prog.cellsOf 43 = 1 := by kernel_rfl
set_option maxRecDepth 100000 in
theorem open_picks8 {H : Type} {enc : TypeId × Value → H} {W : World} {r : Reach} {b0 : Nat} {v : Value} {d : DataW H} {p : List MemPlace}
    (hv : Value.okWide Try.prog W r b0 41 v) (h : DataW.Trod enc Try.prog W 0 (fun _ => true) true 41 v d p) :
    ∃ (a : Option Addr) (c : Nat) (xs : List Int), v = .slice a xs.length c ∧ NR8 W a xs ∧ (∀ j, i8 (xs.getD j 0)) ∧ ((d = .nil ∧ xs.length = 0) ∨ ∃ el sp, d = .slice el sp ∧ el.length = xs.length) := by
  obtain ⟨a, len, cap, rfl⟩ := okWide_slice Try.underlying41 hv
  obtain ⟨fuel, hf⟩ := h
  have hf' : DataW.trod enc Try.prog W 0 (fun _ => true) true fuel 41 [.slice a len cap] = some (d, p) := by simpa [Value.cells] using hf
  rcases open_slice1 Try.underlying41 cellsI8 hf' with ⟨hcs, hx⟩ | ⟨a, len, cap, m, n', V, D, Pl, hcs, _, hl, hm, hmm, hx, hall⟩
  · simp at hcs
    obtain ⟨rfl, rfl, rfl⟩ := hcs
    refine ⟨none, 0, [], rfl, .inl rfl, fun j => by simp [i8], .inl ⟨?_, rfl⟩⟩
    exact congrArg Prod.fst hx
  · simp at hcs hmm
    have hmm' := hmm.symm
    subst hmm'
    obtain ⟨rfl, rfl, rfl⟩ := hcs
    obtain ⟨Z, hZ⟩ := choose_lt (α := Int) (p := fun i z => V i = .int .i8 z ∧ i8 z) (fun i hi => by
      obtain ⟨_, h2⟩ := hall i hi
      obtain ⟨z, e, _, hw⟩ := DataW.trod_int Try.underlying43 h2
      simp at e
      exact ⟨z, e, bounds_i8 hw⟩)
    refine ⟨some a, cap, (List.range len).map Z, by simp, ?_, fun j => ?_, .inr ⟨_, _, congrArg Prod.fst hx, by simp⟩⟩
    · rcases Nat.eq_zero_or_pos len with h0 | h0
      · left; subst h0; rfl
      · right
        obtain ⟨b, off, rfl⟩ := spot_none (hall 0 (by omega)).1
        refine ⟨b, off, rfl, fun j hj => ?_⟩
        have hj' : j < len := by simpa using hj
        have h1 := (hall j (by omega)).1
        rw [add_none, (hZ j (by omega)).1] at h1
        rw [getD_range Z len j 0 hj']
        exact h1
    · by_cases hj : j < len
      · rw [getD_range Z len j 0 hj]; exact (hZ j (by omega)).2
      · rw [getD_range' Z len j 0 hj]; simp [i8]
end LW
end Go.Proofs.Ytheifjakpdeiaaa
