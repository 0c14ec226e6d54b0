/-
  What the call Decode (the program) gives, for every block in either form.
-/
import Derived.Test.YtplpplbmajiclabGreatDecL
namespace Go.Proofs.YtplpplbmajiclabGreat
open Go.RowKit
set_option linter.unusedVariables false
set_option linter.unusedSimpArgs false
namespace LW
open Words
attribute [local go_sem ↓] Go.wp_at_zero Go.wp_at_succ
theorem cl_zero {kd : Int} {n : Nat} (h : cl kd n = 0) : (kd = 1 ∨ kd = 2) ∧ (n : Int) = mo kd := by
  unfold cl at h
  split at h
  · exact absurd h (by decide)
  · rename_i hk
    split at h
    · exact absurd h (by decide)
    · split at h
      · exact absurd h (by decide)
      · exact ⟨by omega, by omega⟩
theorem msC_two (kd : Int) (W : World) (g : Nat) (h : W.heap[g]? = some (.cells (msC kd) 79 (0, 0))) : W.rangeAt g 4 [.int .i64 (if kd = 1 then 18 else 0), .int .i64 (if kd = 1 then 14 else 0)] := fun j v hj => by
  have hlt := (List.getElem?_eq_some_iff.1 hj).1
  have : j = 0 ∨ j = 1 := by simp at hlt; omega
  rcases this with rfl | rfl
  · exact blk_cell h (i := 4) (by simpa [msC] using hj)
  · exact blk_cell h (i := 5) (by simpa [msC] using hj)
theorem info79 (kd : Int) : (Tryz.prog.info? 79).map (·.size) = some (msC kd).size := by
  show (Tryz.prog.info? 79).map (·.size) = some 6
  kernel_rfl
theorem ms_one (kd : Int) : (msC kd).all (·.oneCell') = true := by simp [msC, Value.oneCell']
theorem own_setRow {w : World} {B n p : Nat} {v : Value} {xs : List Value} {cs : Array Value} (h : w.ownsRow B 5 1 v n xs) (hp : p < B) : (w.setRow p cs).ownsRow B 5 1 v n xs := by
  obtain ⟨h1, h2⟩ := h
  refine ⟨h1, ?_⟩
  rcases h2 with h2 | ⟨g, cap, cur, e, hg, hh, rest⟩
  · exact .inl h2
  · refine .inr ⟨g, cap, cur, e, hg, ?_, rest⟩
    rw [setRow_other _ _ _ _ (by omega)]; exact hh
theorem sa_length (kd : Int) (zs : List Int) (hk : kd = 1 ∨ kd = 2) (hl : (zs.length : Int) = mo kd) : (saL kd zs).length = (mo kd / 4).toNat ∧ (peL kd zs).length = (mo kd / 4).toNat := by
  unfold saL peL
  have hs : 4 * (mo kd / 4).toNat ≤ zs.length := by rcases hk with rfl | rfl <;> simp [mo] at hl ⊢ <;> omega
  exact ⟨sub_length _ _ _ (by omega), sub_length _ _ _ (by omega)⟩
end LW
end Go.Proofs.YtplpplbmajiclabGreat
