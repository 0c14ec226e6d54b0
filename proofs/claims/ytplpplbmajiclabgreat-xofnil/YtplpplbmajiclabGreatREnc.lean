/-
  What the call Encode (the document) gives, for all parameters.
-/
import Derived.Test.YtplpplbmajiclabGreatEnc
namespace Go.Proofs.YtplpplbmajiclabGreat
open Go.RowKit
set_option linter.unusedVariables false
set_option linter.unusedSimpArgs false
namespace LW
open Words
attribute [local go_sem ↓] Go.wp_at_zero Go.wp_at_succ
theorem enR_length (kd : Int) (p : Pm) (hk : kd = 1 ∨ kd = 2) : ∀ k, k ≤ 9 → (enR kd p k).length = (mo kd).toNat
  | 0, _ => by simp [enR]
  | k + 1, h => by
    obtain ⟨e1, e2, _, _, hl⟩ := fits kd ((k + 1 : Nat) : Int) hk (by omega) (by omega)
    rw [enR]
    split
    · exact enR_length kd p hk k (by omega)
    · rw [ly_length _ _ _ _ (by rw [enR_length kd p hk k (by omega)]; unfold fA fS at hl; omega), enR_length kd p hk k (by omega)]
theorem splice_nil (l : List Int) (j : Nat) : splice l j [] = l := by simp [splice]
theorem splice_step (l s : List Int) (j i : Nat) (hi : i < s.length) (hl : j + s.length ≤ l.length) : (splice l j (s.take i)).set (j + i) (s.getD i 0) = splice l j (s.take (i + 1)) := by
  unfold splice
  have h1 : (l.take j).length = j := by simp; omega
  have h2 : (s.take i).length = i := by simp; omega
  have h3 : (s.take (i + 1)).length = i + 1 := by simp; omega
  rw [h2, h3, List.set_append_right _ _ (by omega), h1, show j + i - j = i by omega, List.set_append_right _ _ (by omega), h2, Nat.sub_self, List.drop_eq_getElem_cons (by omega : j + i < l.length), List.set_cons_zero, take_snoc s i hi, List.append_assoc]
  rfl
end LW
end Go.Proofs.YtplpplbmajiclabGreat
