/-
  What the law's call copied gives: the same parameters with bytes of their own.
-/
import Derived.Test.YtomdplcmbcjkfaaPlain
import Derived.Test.YtomdplcmbcjkfaaClone
namespace Go.Proofs.Ytomdplcmbcjkfaa
open Go.RowKit
set_option linter.unusedVariables false
namespace LW
open Words
theorem own_below {w w' : World} {B n : Nat} {v : Value} {xs : List Value} (h : w.ownsRow B 5 1 v n xs) (hb : Below w.heap.size w w') : w'.ownsRow B 5 1 v n xs := by
  obtain ⟨h1, h2⟩ := h
  refine ⟨h1, ?_⟩
  rcases h2 with h2 | ⟨g, cap, cur, e, hg, hh, rest⟩
  · exact .inl h2
  · exact .inr ⟨g, cap, cur, e, hg, by rw [hb.block g (Array.getElem?_eq_some_iff.1 hh).1]; exact hh, rest⟩
theorem own_set {w : World} {B n p o : Nat} {v u : Value} {xs : List Value} (h : w.ownsRow B 5 1 v n xs) (hp : p < B) : (w.setCell ⟨p, o, none⟩ u).ownsRow B 5 1 v n xs := ownsRow_setCell_below h hp u
theorem own_mono' {w : World} {B B' n : Nat} {v : Value} {xs : List Value} (h : w.ownsRow B 5 1 v n xs) (hb : B' ≤ B) : w.ownsRow B' 5 1 v n xs :=
  ⟨h.1, h.2.imp id (fun ⟨g, cap, cur, e, hg, rest⟩ => ⟨g, cap, cur, e, Nat.le_trans hb hg, rest⟩)⟩
theorem blk_other {w : World} {g p o : Nat} {u : Value} {ob : Obj} (h : w.heap[g]? = some ob) (hne : g ≠ p) : (w.setCell ⟨p, o, none⟩ u).heap[g]? = some ob := by
  rw [Below.heap_setCell _ _ _ _ hne]; exact h
theorem own_set11 {w : World} {B n g : Nat} {v v0 v1 v2 v3 v4 v5 v6 v7 v8 v9 v10 : Value} {xs : List Value} (h : w.ownsRow B 5 1 v n xs) (hp : g < B) : ((((((((((((w.setCell ⟨g, 0, none⟩ v0).setCell ⟨g, 1, none⟩ v1).setCell ⟨g, 2, none⟩ v2).setCell ⟨g, 3, none⟩ v3).setCell ⟨g, 4, none⟩ v4).setCell ⟨g, 5, none⟩ v5).setCell ⟨g, 6, none⟩ v6).setCell ⟨g, 7, none⟩ v7).setCell ⟨g, 8, none⟩ v8).setCell ⟨g, 9, none⟩ v9).setCell ⟨g, 10, none⟩ v10)).ownsRow B 5 1 v n xs :=
  own_set (own_set (own_set (own_set (own_set (own_set (own_set (own_set (own_set (own_set (own_set h hp) hp) hp) hp) hp) hp) hp) hp) hp) hp) hp
theorem own_form {w : World} {B n : Nat} {v : Value} {xs : List Value} (h : w.ownsRow B 5 1 v n xs) : ∃ a cap, v = .slice a n cap := by
  rcases h.2 with ⟨rfl, rfl⟩ | ⟨g, cap, cur, rfl, _⟩
  · exact ⟨none, 0, rfl⟩
  · exact ⟨_, cap, rfl⟩
/-- 'append(nil, b...)', b nil or not: the same bytes in new memory. -/
theorem wpList_copy_row {w : World} {ops : Array Oper} {rest : List Oper} {o : Oper} {a : Act} {Q : Exit → Act → World → Prop} (hgd : o.guard = none) (s x : Operand)
    (ho : o.op = .call { callee := .builtin .append, args := #[s, x], argTypes := #[24, 24] }) (b : Option Addr) (cap : Nat) (zs : List Int) (len : Nat) (hlen : zs.length = len) (hs : a.eval s = .slice none 0 0) (hx : a.eval x = .slice b len cap)
    (hr : Row w b zs) (hn : b = none → cap = 0) (hm : len ≤ 140737488351232)
    (h : ∀ x' w', w'.ownsRow w.heap.size 5 1 x' len (vs zs) → Below w.heap.size w w' → wpList Try.prog ops Q rest (a.put o.dst x') w') : wpList Try.prog ops Q (o :: rest) a w := by
  obtain ⟨i0, hi, hz0, hz1, hz2⟩ := info_parts info5
  subst hlen
  cases b with
  | none =>
    obtain rfl := hn rfl
    obtain rfl : zs = [] := by rcases hr with h | ⟨b, off, h, _⟩ <;> first | exact h | cases h
    exact wpList_append_own_none hgd s x 24 ho w.heap.size 5 i0 1 Try.underlying24 hi _ 0 [] hs (World.ownsRow_nil _ _ _ _) hx (h _ _ (World.ownsRow_nil _ _ _ _) (Below.refl _ _))
  | some ad =>
    refine wpList_append_own _ hgd s x 24 ho w.heap.size 5 i0 (.int .u8 0) 1 1 Try.underlying24 hi hz0 hz1 hz2 rfl (by decide) _ 0 [] hs (World.ownsRow_nil _ _ _ _) ad zs.length cap (vs zs) hx (by rw [Nat.mul_one]; exact vs_length zs) (row_cells hr (Below.refl _ _)) (oneCell_vs zs) (by unfold maxLen; omega) (by omega) (Nat.le_refl _) ?_
    intro v' w2 hown' hgrow' _
    rw [Nat.zero_add] at hown'
    exact h _ _ hown' ((Below.refl _ _).grown hgrow' (Nat.le_refl _) (own_block (World.ownsRow_nil w w.heap.size 5 1)))
end LW
end Go.Proofs.Ytomdplcmbcjkfaa
