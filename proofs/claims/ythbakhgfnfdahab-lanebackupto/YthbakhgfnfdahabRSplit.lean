/-
  What the document's Split gives: byte by byte, each lane in a row of its own.
-/
import Derived.Test.YthbakhgfnfdahabSplits
namespace Go.Proofs.Ythbakhgfnfdahab
open Go.RowKit Go.ChangeShapes
set_option linter.unusedVariables false
set_option linter.unusedSimpArgs false
namespace LW
open Words
/-- No two of the slices lie in one block. -/
def Apart (n : Nat) (qs : List Value) : Prop := ∀ l j, l < n → j < n → l ≠ j → ∀ v u, qs[l]? = some v → qs[j]? = some u → ∀ k, v.ownBlock = some k → u.ownBlock ≠ some k
theorem Apart.nils (n : Nat) : Apart n (List.replicate n (.slice none 0 0)) := by
  intro l j hl hj _ v u hv hu k hk
  simp [hl] at hv
  subst hv
  simp [Value.ownBlock] at hk
theorem Lst.nils {w : World} {base g n : Nat} {L : Nat → List Int} (h : w.heap[g]? = some (.cells (List.replicate n (Value.slice none 0 0)).toArray 22 (0, 0))) (hL : ∀ l, L l = []) : Lst w base g n L n (List.replicate n (.slice none 0 0)) :=
  ⟨h, by simp, fun l hl => ⟨.slice none 0 0, by simp [hl], by rw [hL]; exact World.ownsRow_nil _ _ _ _⟩⟩
/-- One lane grows. -/
theorem Lst.step {wr w2 : World} {g n l : Nat} {L L' : Nat → List Int} {qs : List Value} {v v' : Value} (h : Lst wr (g + 1) g n L n qs) (ha : Apart n qs) (hl : l < n) (hv : qs[l]? = some v)
    (ho : w2.ownsRow (g + 1) 5 1 v' (L' l).length (vs (L' l))) (hL : ∀ j, j < n → j ≠ l → L' j = L j) (hg : ∀ k, k < wr.heap.size → v.ownBlock ≠ some k → w2.heap[k]? = wr.heap[k]?) (hb : v'.ownBlock = v.ownBlock ∨ ∃ k, v'.ownBlock = some k ∧ wr.heap.size ≤ k) :
    Lst (w2.setCell ⟨g, l, none⟩ v') (g + 1) g n L' n (qs.set l v') ∧ Apart n (qs.set l v') := by
  have hql := h.2.1
  obtain ⟨v0, hv0, hown⟩ := h.2.2 l hl
  rw [hv] at hv0
  cases hv0
  have hG : w2.heap[g]? = some (.cells qs.toArray 22 (0, 0)) := by
    rw [hg g h.lt (fun e => by have := own_lt hown e; omega)]
    exact h.1
  refine ⟨⟨by rw [blk_set hG]; simp, by simp [hql], fun j hj => ?_⟩, ?_⟩
  · by_cases e : j = l
    · subst e
      exact ⟨v', by simp [hql, hj], ownsRow_setCell_below ho (Nat.lt_succ_self g) v'⟩
    · obtain ⟨u, h1, h2⟩ := h.2.2 j hj
      refine ⟨u, by rw [List.getElem?_set_ne (Ne.symm e)]; exact h1, ownsRow_setCell_below ?_ (Nat.lt_succ_self g) v'⟩
      rw [hL j hj e]
      refine ⟨h2.1, ?_⟩
      rcases h2.2 with h3 | ⟨g', cap, cur, e3, hb3, hh3, r3⟩
      · exact .inl h3
      · refine .inr ⟨g', cap, cur, e3, hb3, ?_, r3⟩
        rw [hg g' (blk_lt hh3) (fun e4 => ha l j hl hj (Ne.symm e) v u hv h1 g' e4 (by rw [e3]; rfl))]
        exact hh3
  · intro i j hi hj hne x y hx hy k hk
    by_cases ei : i = l
    · subst ei
      have hx' : x = v' := by
        rw [List.getElem?_set_self (by omega)] at hx
        exact (Option.some.inj hx).symm
      subst hx'
      rw [List.getElem?_set_ne hne] at hy
      rcases hb with hb | ⟨k', hb, hk'⟩
      · rw [hb] at hk
        exact ha i j hi hj hne v y hv hy k hk
      · rw [hb] at hk
        cases hk
        obtain ⟨y', hy', hoy⟩ := h.2.2 j hj
        rw [hy] at hy'
        cases hy'
        intro e
        have := own_lt hoy e
        omega
    · rw [List.getElem?_set_ne (Ne.symm ei)] at hx
      by_cases ej : j = l
      · subst ej
        have hy' : y = v' := by
          rw [List.getElem?_set_self (by omega)] at hy
          exact (Option.some.inj hy).symm
        subst hy'
        intro e
        rcases hb with hb | ⟨k', hb, hk'⟩
        · rw [hb] at e
          exact ha j i hj hi (Ne.symm hne) v x hv hx k e hk
        · rw [hb] at e
          cases e
          obtain ⟨x', hx', hox⟩ := h.2.2 i hi
          rw [hx] at hx'
          cases hx'
          have := own_lt hox hk
          omega
      · rw [List.getElem?_set_ne (Ne.symm ej)] at hy
        exact ha i j hi hj hne x y hx hy k hk
theorem Lst.mono {w : World} {base base' g n i : Nat} {L : Nat → List Int} {qs : List Value} (h : Lst w base g n L i qs) (hb : base' ≤ base) : Lst w base' g n L i qs :=
  ⟨h.1, h.2.1, fun l hl => by
    obtain ⟨v, h1, h2⟩ := h.2.2 l hl
    exact ⟨v, h1, own_mono' h2 hb⟩⟩
theorem mo2 {k : Int} (hk : k = 1 ∨ k = 2) : 2 * mo k = (bb k : Int) := by
  rcases hk with rfl | rfl <;> decide
/-- What both calls Split answer: the lanes, no error. -/
def RSp (w : World) (n : Nat) (L : Nat → List Int) (e : Ending) (w' : World) : Prop := ∃ g qs, e = .returned (.tuple #[.slice (some ⟨g, 0, none⟩) n n, .int .i64 0]) ∧ Lst w' w.heap.size g n L n qs ∧ w.heap.size ≤ g ∧ Below w.heap.size w w'
end LW
end Go.Proofs.Ythbakhgfnfdahab
