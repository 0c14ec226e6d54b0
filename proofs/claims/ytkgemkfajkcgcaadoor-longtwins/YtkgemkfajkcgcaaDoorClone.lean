/-
  What the call bytes.Clone gives: the same bytes in memory of their own.
-/
import Derived.Test.YtkgemkfajkcgcaaDoorBase
import Derived.Laws.AppendOwnNone
import Derived.Lib.LazyBuf
namespace Go.Proofs.YtkgemkfajkcgcaaDoor
open Go.RowKit
set_option linter.unusedVariables false
namespace LW
open Words
theorem empty_own (w : World) : (w.alloc (.cells #[] 5)).ownsRow w.heap.size 5 1 (.slice (some ⟨w.heap.size, 0, none⟩) 0 0) 0 (vs []) := by
  refine ⟨rfl, .inr ⟨w.heap.size, 0, #[], rfl, Nat.le_refl _, ?_, Nat.le_refl _, Nat.zero_le _, rfl, rfl⟩⟩
  show (w.heap.push _)[w.heap.size]? = _
  simp
theorem oneCell_vs (zs : List Int) : ∀ u ∈ vs zs, u.oneCell' = true := by
  intro u hu
  simp only [vs, List.mem_map] at hu
  obtain ⟨z, _, rfl⟩ := hu
  rfl
theorem row_cells {w w' : World} {ad : Addr} {zs : List Int} (h : Row w (some ad) zs) (hb : Below w.heap.size w w') : ∀ (j : Nat) (u : Value), (vs zs)[j]? = some u → w'.cell? (ad.add j) = some u := by
  intro j u hj
  have hjl : j < zs.length := by
    rcases Nat.lt_or_ge j zs.length with h' | h'
    · exact h'
    · rw [List.getElem?_eq_none (by rw [vs_length]; exact h')] at hj; cases hj
  rw [vs_get zs j hjl] at hj
  rcases h.below hb with rfl | ⟨b, off, he, hc⟩
  · simp at hjl
  · cases he
    rw [← hj, ← hc j hjl]
    congr 1
    simp only [Addr.add]
    split
    · rename_i h; rw [h, Nat.add_zero]
    · rfl
/-- What a call owns that is not nil begins at a block's first cell. -/
theorem own_some {w : World} {B n : Nat} {v : Value} {xs : List Value} (h : w.ownsRow B 5 1 v n xs) (hn : 0 < n) : ∃ g cap, v = .slice (some ⟨g, 0, none⟩) n cap ∧ B ≤ g ∧ g < w.heap.size := by
  rcases h.2 with ⟨rfl, h0⟩ | ⟨g, cap, cur, rfl, hg, hh, _⟩
  · omega
  · exact ⟨g, cap, rfl, hg, (Array.getElem?_eq_some_iff.1 hh).1⟩
end LW
end Go.Proofs.YtkgemkfajkcgcaaDoor
