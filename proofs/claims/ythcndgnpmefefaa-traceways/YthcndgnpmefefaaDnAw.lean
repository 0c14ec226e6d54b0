/-
  Dn, InM, InN in one.
-/
import Derived.Test.YthcndgnpmefefaaTvBw
import Derived.Test.YthcndgnpmefefaaOrd3w
import Derived.Test.YthcndgnpmefefaaPairw
import Derived.Test.YthcndgnpmefefaaTr2w
namespace Go.Proofs.Ythcndgnpmefefaa
open Go.RowKit
set_option linter.unusedVariables false
set_option linter.unusedSimpArgs false
namespace LW
open Mc
theorem own_at9 {w : World} {B b n c : Nat} {l : List Int} (h : w.ownsRow B 3 1 (.slice (some ⟨b, 0, none⟩) n c) n (l.map (Value.int .i64))) (i : Nat) (hi : i < l.length) : w.cell? ⟨b, i, none⟩ = some (.int .i64 (l.getD i 0)) ∧ w.frozen? ⟨b, i, none⟩ = false := by
 refine ⟨?_, h.frozenAt i⟩
 have h1 := h.cells (g := b) rfl i (.int .i64 (l.getD i 0)) (by rw [List.getElem?_map, List.getElem?_eq_getElem hi, List.getD_eq_getElem?_getD, List.getElem?_eq_getElem hi]; rfl)
 have hadd : (⟨b, 0, Option.none⟩ : Addr).add i = ⟨b, i, Option.none⟩ := by unfold Addr.add; split <;> simp_all
 rw [hadd] at h1
 exact h1
theorem nr_own9 {w : World} {B : Nat} {v : Value} {l : List Int} (h : w.ownsRow B 3 1 v l.length (l.map (Value.int .i64))) : ∃ a c, v = .slice a l.length c ∧ NR w a l := by
 rcases h.2 with ⟨rfl, h0⟩ | ⟨g, cap, cur, e, _⟩
 ·exact ⟨none, 0, by rw [h0], .inl (List.eq_nil_of_length_eq_zero h0)⟩
 ·subst e
  exact ⟨_, cap, rfl, .inr ⟨g, 0, rfl, fun j hj => by rw [Nat.zero_add]; exact (own_at9 h j hj).1⟩⟩
theorem take_one9 {α : Type} (l : List α) (i : Nat) (h : i < l.length) (d : α) : l.take (i + 1) = l.take i ++ [l.getD i d] := by
 rw [List.take_add_one, List.getD_eq_getElem?_getD, List.getElem?_eq_getElem h]
 rfl
end LW
end Go.Proofs.Ythcndgnpmefefaa
namespace Go.Proofs.Ythcndgnpmefefaa
open Go
set_option linter.unusedVariables false
set_option linter.unusedSimpArgs false
namespace Tr
open Mc
/-- The last event of a runner among the first i; who started it. -/
structure LaB (l : List Ev) (j i : Nat) (la bo : Int) : Prop where
 la : (la = -1 ∧ ∀ k, k < i → (ev l k).who ≠ (ev l j).who) ∨ ∃ p : Nat, p < i ∧ la = p ∧ (ev l p).who = (ev l j).who ∧ ∀ k, p < k → k < i → (ev l k).who ≠ (ev l j).who
 bo : (bo = -1 ∧ ∀ k, k < i → ¬ ((ev l k).op = 14 ∧ (ev l k).value = (ev l j).who ∧ 0 < (ev l j).who)) ∨ ∃ p : Nat, p < i ∧ bo = p ∧ (ev l p).op = 14 ∧ (ev l p).value = (ev l j).who ∧ 0 < (ev l j).who
theorem LaB.zero (l : List Ev) (j : Nat) : LaB l j 0 (-1) (-1) := ⟨.inl ⟨rfl, fun k hk => by omega⟩, .inl ⟨rfl, fun k hk => by omega⟩⟩
theorem LaB.next {l : List Ev} {j i : Nat} {la bo : Int} (h : LaB l j i la bo) : LaB l j (i + 1) (if (ev l i).who = (ev l j).who then (i : Int) else la) (if (ev l i).op = 14 ∧ (ev l i).value = (ev l j).who ∧ 0 < (ev l j).who then (i : Int) else bo) := by
 refine ⟨?_, ?_⟩
 ·by_cases hw : (ev l i).who = (ev l j).who
  ·rw [if_pos hw]
   exact .inr ⟨i, by omega, rfl, hw, fun k h1 h2 => by omega⟩
  ·rw [if_neg hw]
   rcases h.la with ⟨h1, h2⟩ | ⟨p, h1, h2, h3, h4⟩
   ·refine .inl ⟨h1, fun k hk => ?_⟩
    by_cases e : k = i
    ·rw [e]; exact hw
    ·exact h2 k (by omega)
   ·refine .inr ⟨p, by omega, h2, h3, fun k h5 h6 => ?_⟩
    by_cases e : k = i
    ·rw [e]; exact hw
    ·exact h4 k h5 (by omega)
 ·by_cases hw : (ev l i).op = 14 ∧ (ev l i).value = (ev l j).who ∧ 0 < (ev l j).who
  ·rw [if_pos hw]
   exact .inr ⟨i, by omega, rfl, hw⟩
  ·rw [if_neg hw]
   rcases h.bo with ⟨h1, h2⟩ | ⟨p, h1, h2⟩
   ·refine .inl ⟨h1, fun k hk => ?_⟩
    by_cases e : k = i
    ·rw [e]; exact hw
    ·exact h2 k (by omega)
   ·exact .inr ⟨p, by omega, h2⟩
end Tr
end Go.Proofs.Ythcndgnpmefefaa
set_option maxRecDepth 100000
namespace Go.Proofs.Ythcndgnpmefefaa
open Mc
namespace Tr
theorem cP_one {p : Ev → Bool} (l : List Ev) {k q : Nat} (h : k < q) (hq : q ≤ l.length) (hp : p (l.getD k e0) = true) : (l.take k).countP p < (l.take q).countP p := by
 have h1 : (l.take (k + 1)).countP p ≤ (l.take q).countP p := by
  have e : l.take (k + 1) = (l.take q).take (k + 1) := by rw [List.take_take, Nat.min_eq_left (by omega)]
  rw [e]
  exact (List.take_sublist _ _).countP_le
 rw [take_snoc l k (by omega), List.countP_append, List.countP_cons, List.countP_nil, if_pos hp] at h1
 omega
end Tr
end Go.Proofs.Ythcndgnpmefefaa
