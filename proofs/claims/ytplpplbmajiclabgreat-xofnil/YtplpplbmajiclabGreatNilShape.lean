/-
  What a world's shape tells of the table iv: eight words; the walk of XofNil from there.
-/
import Derived.Test.YtplpplbmajiclabGreatNilLaw
import GoSem.Claims
namespace Go.Proofs.YtplpplbmajiclabGreat
open Go.RowKit
set_option linter.unusedVariables false
set_option linter.unusedSimpArgs false
namespace LW
theorem row0 : ((begin Tryz.prog (fun _ _ => 0) default).world.heap[2]?).bind Obj.row? = some (K .u64 (List.replicate 8 0), 102) := by kernel_rfl
theorem types8 : Tryz.prog.cellTypes Tryz.prog.depth 102 = some (List.replicate 8 23) := by kernel_rfl
set_option maxRecDepth 100000 in
theorem iv_shaped {w : World} (h : w.ShapedOpen Tryz.prog) : ∃ iv : List Int, iv.length = 8 ∧ w.heap[2]? = some (.cells (K .u64 iv) 102 (0, 0)) := by
  obtain ⟨cs, hh, hs, hr⟩ := h.1 2 _ _ (of_decide_eq_true (by kernel_rfl)) row0
  obtain ⟨ts, hts, _, hall⟩ := hr (by kernel_rfl)
  rw [types8] at hts
  cases hts
  have hs8 : cs.size = 8 := hs
  have hint : ∀ i (hi : i < cs.size), ∃ n, cs[i] = .int .u64 n := fun i hi => by
    obtain ⟨u, hu, hok⟩ := hall i cs[i] (by simp [hi])
    have hu' : u = 23 := by
      simp only [List.length_replicate] at hu
      rw [List.getElem?_replicate] at hu
      split at hu
      · exact (Option.some.inj hu).symm
      · cases hu
    subst hu'
    unfold Cell.ok at hok
    rw [Tryz.underlying23] at hok
    generalize cs[i] = v at hok ⊢
    cases v with
    | int k' n =>
      have h1 := hok.1
      subst h1
      exact ⟨n, rfl⟩
    | _ => exact absurd hok (by simp)
  refine ⟨cs.toList.map intOf, by simp [hs8], ?_⟩
  rw [hh]
  congr 2
  apply Array.ext
  · simp [K]
  · intro i h1 h2
    obtain ⟨n, hn⟩ := hint i h1
    simp [K, hn, intOf]
theorem nilW (d : Value) (n by_ : Int) (w : World) (h1 : (Lit.int .i64 n).wf = true) (h2 : (Lit.int .u64 by_).wf = true) (h : w.ShapedOpen Tryz.prog) :
    Calls Tryz.prog 3 #[d, .int .i64 n, .int .u64 by_] w fun e w' => e = .returned (.bool true) ∧ Below w.heap.size w w' := by
  obtain ⟨iv, hl, hi⟩ := iv_shaped h
  exact nilLaw iv d n by_ w hl hi
end LW
end Go.Proofs.YtplpplbmajiclabGreat
