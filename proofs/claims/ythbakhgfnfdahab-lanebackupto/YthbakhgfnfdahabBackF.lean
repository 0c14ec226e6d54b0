/-
  The walk of LaneBack, for its row.
-/
import Derived.Test.YthbakhgfnfdahabLaneArgs
import Derived.Test.YthbakhgfnfdahabByteArgs
import Derived.Test.YthbakhgfnfdahabBackLaw
namespace Go.Proofs.Ythbakhgfnfdahab
open Go.ChangeShapes Go.WideShapes Go.ChangeAt Go.RowKit Go.Deep
set_option linter.unusedVariables false
namespace LW
theorem bytes_bulk {H : Type} {d : DataW H} {zs : List Int} (hd : (d = .nil ∧ zs.length = 0) ∨ ∃ sp, d = .slice (lits .u8 zs) sp) (hB : Rows.uptoBulk d ≤ 1048576) : zs.length ≤ 1048576 := by
  rcases hd with ⟨_, h⟩ | ⟨sp, h⟩
  · omega
  · rw [h] at hB
    simp only [Rows.uptoBulk, bulk_lits] at hB
    omega
theorem backF {H : Type} {enc : TypeId × Value → H} {r r' : Reach} {b0 b1 : Nat} {d d' : DataW H} {p p' : List MemPlace} (k : Int) (u v : Value) (W : World) (h0 : (Lit.int .i64 k).wf = true)
    (hu : Value.okWide Try.prog W r' b1 22 u) (h' : DataW.Trod enc Try.prog W 0 (fun _ => true) true 22 u d' p') (hB' : Rows.uptoBulk d' ≤ 1048576)
    (hv : Value.okWide Try.prog W r b0 23 v) (h : DataW.Trod enc Try.prog W 0 (fun _ => true) true 23 v d p) (hB : Rows.uptoBulk d ≤ 1048576) :
    Calls Try.prog 3 #[.int .i64 k, u, v] W fun e w' => e = .returned (.bool true) ∧ Below W.heap.size W w' := by
  obtain ⟨al, N, c, ls, rfl, hN, hM⟩ := open_lanes hv h hB
  obtain ⟨a, cap, zs, rfl, hcap, _, hrow, _, _, hd⟩ := open_slice29 hu h'
  have hz := bytes_bulk hd hB'
  rcases Nat.eq_zero_or_pos (nl k) with h1 | h1
  · exact backsNo k a cap zs al N c ls W h1 hrow hcap hz
  · have hk : k = 1 ∨ k = 2 := by
      rcases kinds k with h | h | h
      · exact .inl h
      · exact .inr h
      · simp [nl, h.1, h.2] at h1
    exact backsYes k a cap zs al N c ls W hk hrow hcap hz hN fun h2 h3 => hM (by omega)
end LW
end Go.Proofs.Ythbakhgfnfdahab
