/-
 The library's calls on rows of numbers, in the words of rows of one's own.
-/
import Derived.Test.YtdjanbojhblijaaGreatWrg
import Derived.Test.YtdjanbojhblijaaGreatLayWg
import Derived.Test.YtdjanbojhblijaaGreatLkAg
import Derived.Laws.AppendOwnNone
import Derived.Deep.LoopGhost
namespace Go.Proofs.YtdjanbojhblijaaGreat
open Go.RowKit
set_option linter.unusedVariables false
set_option linter.unusedSimpArgs false
namespace LW
open Go.Sort Go.Shelf
open Mc
theorem own_two {w : World} {B n : Nat} {v : Value} {xs : List Value} (h : w.ownsRow B 3 1 v n xs) : (v = .slice none 0 0 ∧ n = 0) ∨ ∃ g cap, v = .slice (some ⟨g, 0, none⟩) n cap ∧ B ≤ g ∧ g < w.heap.size := by
 rcases h.2 with h1 | ⟨g, cap, cur, e, h1, h2, _⟩
 ·exact .inl h1
 ·exact .inr ⟨g, cap, e, h1, own_lt h g (by rw [e]; rfl)⟩
theorem wzSort (B : Nat) (v : Value) (zs : List Int) (w : World) (h : w.ownsRow B 3 1 v zs.length (zs.map (Value.int .i64))) (hl : zs.length ≤ 4000000000) :
  Calls Tryz.prog 59 #[v] w fun e w' => e = .returned (.tuple #[]) ∧ w'.ownsRow B 3 1 v zs.length ((zs.mergeSort (fun (x y : Int) => decide (x ≤ y))).map (Value.int .i64)) ∧ Below B w w' := by
 rcases own_two h with ⟨rfl, h0⟩ | ⟨g, cap, rfl, hB, hg⟩
 ·have hz : zs = [] := List.eq_nil_of_length_eq_zero h0
  subst hz
  refine Calls.mono (show Calls Tryz.prog 59 _ _ _ from Any.slices_Sort_int_none layO none 0 w) ?_
  rintro e w' ⟨rfl, rfl⟩
  exact ⟨rfl, by simpa using h, Below.refl _ _⟩
 ·refine Calls.mono (show Calls Tryz.prog 59 _ _ _ from Any.slices_Sort_int layO g 0 cap zs w (own_holds h) hg (by omega)) ?_
  rintro e w' ⟨rfl, n, os, rfl⟩
  refine ⟨rfl, own_grow (own_put (W := Go.Sort.ahead w n) h _ (by rw [List.length_mergeSort])) os, below_grow (below_put (below_ahead (Below.refl _ _) n) hB _) ?_ os⟩
  rw [size_putRow]
  show B ≤ w.heap.size
  omega
end LW
end Go.Proofs.YtdjanbojhblijaaGreat
