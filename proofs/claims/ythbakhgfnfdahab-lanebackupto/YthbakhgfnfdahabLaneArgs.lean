/-
  How a [][]byte among a law's arguments is opened: its parts, where they lie, and how many bytes they have together.
-/
import Derived.Test.YthbakhgfnfdahabRows
import Derived.Test.YthbakhgfnfdahabLJoin
import Derived.Deep.Matrix
import Derived.SizedLaws
import Derived.ProofKit
import Derived.OpenShut
import Derived.ChangeOld
namespace Go.Proofs.Ythbakhgfnfdahab
open Go.ChangeShapes Go.WideShapes Go.ChangeAt Go.RowKit Go.Deep
set_option linter.unusedVariables false
namespace LW
open Words
theorem bulk_append {H : Type} (a b : List (DataW H)) : Rows.uptoBulkAll (a ++ b) = Rows.uptoBulkAll a + Rows.uptoBulkAll b := by
  induction a with
  | nil => simp [Rows.uptoBulkAll]
  | cons x a ih => simp only [List.cons_append, Rows.uptoBulkAll, ih]; omega
theorem bulk_lits {H : Type} (k : IntKind) (zs : List Int) : Rows.uptoBulkAll (lits (H := H) k zs) = zs.length := by
  induction zs with
  | nil => rfl
  | cons z zs ih =>
    have e : lits (H := H) k (z :: zs) = .lit (.int k z) :: lits k zs := rfl
    rw [e]
    simp only [Rows.uptoBulkAll, Rows.uptoBulk, ih, List.length_cons]; omega
theorem bulk_range {H : Type} (f : Nat → DataW H) (g : Nat → Nat) (N : Nat) (h : ∀ r, r < N → g r + 1 ≤ Rows.uptoBulk (f r)) : sumN g N + N ≤ Rows.uptoBulkAll ((List.range N).map f) := by
  induction N with
  | zero => simp [sumN, Rows.uptoBulkAll]
  | succ N ih =>
    have h1 := ih fun r hr => h r (by omega)
    have h2 := h N (by omega)
    rw [List.range_succ, List.map_append, bulk_append]
    simp only [List.map_cons, List.map_nil, Rows.uptoBulkAll, sumN]
    omega
theorem spot_none {w : World} {a : Addr} {v : Value} (h : w.cell? (a.add 0) = some v) : ∃ b off, a = ⟨b, off, none⟩ := by
  obtain ⟨b, off, spot⟩ := a
  have : spot = none := by simpa [Addr.add] using World.cell?_spot h
  subst this
  exact ⟨b, off, rfl⟩
theorem add_none (b off r : Nat) : (⟨b, off, none⟩ : Addr).add r = ⟨b, off + r, none⟩ := by
  unfold Addr.add; split <;> simp_all
theorem open_lanes {H : Type} {enc : TypeId × Value → H} {W : World} {r : Reach} {b0 : Nat} {v : Value} {d : DataW H} {p : List MemPlace}
    (hv : Value.okWide Try.prog W r b0 23 v) (h : DataW.Trod enc Try.prog W 0 (fun _ => true) true 23 v d p) (hB : Rows.uptoBulk d ≤ 1048576) :
    ∃ (al : Option Addr) (N c : Nat) (ls : Nat → List Int), v = .slice al N c ∧ N ≤ 1048576 ∧ (0 < N → ∃ b off A K, al = some ⟨b, off, none⟩ ∧ Mb W b off N A K ls) := by
  obtain ⟨a, len, cap, rfl⟩ := okWide_slice Try.underlying23 hv
  obtain ⟨fuel, hf⟩ := h
  rcases open_int_rows Try.underlying23 Try.underlying22 Try.underlying5 (by kernel_rfl) (by kernel_rfl) hf with ⟨hcs, hx⟩ | ⟨a', l', c', A, L, C, Z, hcs, _, hl, hm, hx, hall⟩
  · simp [Value.cells] at hcs
    obtain ⟨rfl, rfl, rfl⟩ := hcs
    exact ⟨none, 0, 0, fun _ => [], rfl, by omega, fun h => by omega⟩
  · simp [Value.cells] at hcs
    obtain ⟨rfl, rfl, rfl⟩ := hcs
    simp only [Prod.mk.injEq] at hx
    have hd := hx.1
    rw [hd] at hB
    simp only [Rows.uptoBulk] at hB
    have hlen : ∀ r, r < len → ((Z r).take (L r)).length = L r := fun r hr => by
      obtain ⟨_, h2, _, h4, _⟩ := hall r (by omega)
      rw [List.length_take, h4]; omega
    have hsum := bulk_range (fun r => intRow (H := H) .u8 (A r) (L r) (Z r)) (fun r => ((Z r).take (L r)).length) len (fun r hr => by
      rw [hlen r hr]
      obtain ⟨_, h2, _, h4, _, h6, _⟩ := hall r (by omega)
      unfold intRow
      cases hA : A r with
      | none =>
        have := h6 hA
        simp only [Rows.uptoBulk]; omega
      | some a'' =>
        simp only [Rows.uptoBulk, bulk_lits, List.length_take, h4]; omega)
    refine ⟨some a', len, cap, fun r => (Z r).take (L r), rfl, by omega, fun h0 => ?_⟩
    obtain ⟨b, off, rfl⟩ := spot_none (hall 0 (by omega)).1
    refine ⟨b, off, A, C, rfl, ⟨fun r hr => ?_, fun r hr => ?_, fun r hr => ?_, fun r hr => ?_, ?_⟩⟩
    · have h1 := (hall r (by omega)).1
      rw [add_none] at h1
      rw [hlen r hr]; exact h1
    · obtain ⟨_, h2, _, h4, h5, h6, h7⟩ := hall r (by omega)
      rcases Nat.eq_zero_or_pos (L r) with h0 | h0
      · left; rw [h0]; rfl
      · cases hA : A r with
        | none => have := h6 hA; omega
        | some a'' =>
          obtain ⟨_, h8⟩ := h7 a'' hA
          obtain ⟨b', off', rfl⟩ := spot_none (h8 0 (by omega))
          refine .inr ⟨b', off', rfl, fun i hi => ?_⟩
          rw [hlen r hr] at hi
          have h9 := h8 i (by omega)
          rw [add_none] at h9
          rw [h9]
          simp [List.getD_eq_getElem?_getD, hi]
    · obtain ⟨_, h2, _⟩ := hall r (by omega)
      rw [hlen r hr]; exact h2
    · exact (hall r (by omega)).2.2.2.2.2.1
    · omega
end LW
end Go.Proofs.Ythbakhgfnfdahab
