/-
  How many numbers a row among the arguments has, by the bulk of what is read.
-/
import Derived.Test.YtheifjakpdeiaaaRows
namespace Go.Proofs.Ytheifjakpdeiaaa
namespace LW
theorem bulk_pos {H : Type} (d : DataW H) : 1 ≤ Rows.uptoBulk d := by
  cases d with
  | lit l => cases l <;> simp only [Rows.uptoBulk] <;> omega
  | _ => simp only [Rows.uptoBulk] <;> omega
theorem bulk_len {H : Type} (l : List (DataW H)) : l.length ≤ Rows.uptoBulkAll l := by
  induction l with
  | nil => exact Nat.zero_le _
  | cons d l ih =>
    have := bulk_pos d
    simp only [Rows.uptoBulkAll, List.length_cons]
    omega
theorem bulk_nums {H : Type} {d : DataW H} {n : Nat} (hd : (d = .nil ∧ n = 0) ∨ ∃ el sp, d = .slice el sp ∧ el.length = n) : n ≤ Rows.uptoBulk d := by
  rcases hd with ⟨_, h⟩ | ⟨el, sp, rfl, h⟩
  · omega
  · have := bulk_len el
    simp only [Rows.uptoBulk]
    omega
end LW
end Go.Proofs.Ytheifjakpdeiaaa
