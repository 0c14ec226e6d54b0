/-
  The pool's system: some runner can go on until all have ended; so every run is done, in as many steps as are told ahead.
-/
import Derived.Test.YtghpfhoajcgghaaPq2
namespace Go.Proofs.Ytghpfhoajcgghaa
open Go
set_option linter.unusedVariables false
set_option linter.unusedSimpArgs false
namespace Mc
namespace PQ
theorem stC {n a q b : Int} (hy : Hy n a q b) {rns : List Rn} {h0 h1 h2 : List Int} {z0 z1 g : Int} {cells : List Int} {evs : List Ev} (h : IV n a b rns h0 h1 h2 z0 z1 g cells evs.length) {k : Nat} (hk : k < rns.length) (hc : can (psys n a q b) (pst rns h0 h1 h2 z0 z1 g cells evs) k = false) {p : Int} {R : List Int} (hr : rns.getD k r0 = ⟨0, p, R, decide (p = 15)⟩) (hR : R.length = 8) (hA : 0 ≤ p ∧ p ≤ 15) : p = 15 ∨ (p = 11 ∧ h1.length = 0 ∧ z1 = 0) := by
  have hp : p = 0 ∨ p = 1 ∨ p = 2 ∨ p = 3 ∨ p = 4 ∨ p = 5 ∨ p = 6 ∨ p = 7 ∨ p = 8 ∨ p = 9 ∨ p = 10 ∨ p = 11 ∨ p = 12 ∨ p = 13 ∨ p = 14 ∨ p = 15 := by omega
  rcases hp with rfl | rfl | rfl | rfl | rfl | rfl | rfl | rfl | rfl | rfl | rfl | rfl | rfl | rfl | rfl | rfl
  · have hi : ins (psys n a q b) (pst rns h0 h1 h2 z0 z1 g cells evs) k = ⟨1, 0, 0, 0⟩ := by unfold ins rn pst; dsimp only; rw [hr]; rfl
    have he : (rn (pst rns h0 h1 h2 z0 z1 g cells evs) k).ended = false := by unfold rn pst; dsimp only; rw [hr]; rfl
    rw [can_free he (by rw [hi]; exact of_decide_eq_true rfl)] at hc
    cases hc
  · have hi : ins (psys n a q b) (pst rns h0 h1 h2 z0 z1 g cells evs) k = ⟨1, 1, a, 0⟩ := by unfold ins rn pst; dsimp only; rw [hr]; rfl
    have he : (rn (pst rns h0 h1 h2 z0 z1 g cells evs) k).ended = false := by unfold rn pst; dsimp only; rw [hr]; rfl
    rw [can_free he (by rw [hi]; exact of_decide_eq_true rfl)] at hc
    cases hc
  · have hi : ins (psys n a q b) (pst rns h0 h1 h2 z0 z1 g cells evs) k = ⟨1, 2, 1, 0⟩ := by unfold ins rn pst; dsimp only; rw [hr]; rfl
    have he : (rn (pst rns h0 h1 h2 z0 z1 g cells evs) k).ended = false := by unfold rn pst; dsimp only; rw [hr]; rfl
    rw [can_free he (by rw [hi]; exact of_decide_eq_true rfl)] at hc
    cases hc
  · have hi : ins (psys n a q b) (pst rns h0 h1 h2 z0 z1 g cells evs) k = ⟨3, 0, 1, 5⟩ := by unfold ins rn pst; dsimp only; rw [hr]; rfl
    have he : (rn (pst rns h0 h1 h2 z0 z1 g cells evs) k).ended = false := by unfold rn pst; dsimp only; rw [hr]; rfl
    rw [can_free he (by rw [hi]; exact of_decide_eq_true rfl)] at hc
    cases hc
  · have hi : ins (psys n a q b) (pst rns h0 h1 h2 z0 z1 g cells evs) k = ⟨4, 0, 0, 9⟩ := by unfold ins rn pst; dsimp only; rw [hr]; rfl
    have he : (rn (pst rns h0 h1 h2 z0 z1 g cells evs) k).ended = false := by unfold rn pst; dsimp only; rw [hr]; rfl
    rw [can_free he (by rw [hi]; exact of_decide_eq_true rfl)] at hc
    cases hc
  · have hi : ins (psys n a q b) (pst rns h0 h1 h2 z0 z1 g cells evs) k = ⟨10, 0, 1, 0⟩ := by unfold ins rn pst; dsimp only; rw [hr]; rfl
    have he : (rn (pst rns h0 h1 h2 z0 z1 g cells evs) k).ended = false := by unfold rn pst; dsimp only; rw [hr]; rfl
    rw [can_free he (by rw [hi]; exact of_decide_eq_true rfl)] at hc
    cases hc
  · have hi : ins (psys n a q b) (pst rns h0 h1 h2 z0 z1 g cells evs) k = ⟨14, 1, 0, 0⟩ := by unfold ins rn pst; dsimp only; rw [hr]; rfl
    have he : (rn (pst rns h0 h1 h2 z0 z1 g cells evs) k).ended = false := by unfold rn pst; dsimp only; rw [hr]; rfl
    rw [can_free he (by rw [hi]; exact of_decide_eq_true rfl)] at hc
    cases hc
  · have hi : ins (psys n a q b) (pst rns h0 h1 h2 z0 z1 g cells evs) k = ⟨2, 0, 2, 0⟩ := by unfold ins rn pst; dsimp only; rw [hr]; rfl
    have he : (rn (pst rns h0 h1 h2 z0 z1 g cells evs) k).ended = false := by unfold rn pst; dsimp only; rw [hr]; rfl
    rw [can_free he (by rw [hi]; exact of_decide_eq_true rfl)] at hc
    cases hc
  · have hi : ins (psys n a q b) (pst rns h0 h1 h2 z0 z1 g cells evs) k = ⟨4, 0, 0, 3⟩ := by unfold ins rn pst; dsimp only; rw [hr]; rfl
    have he : (rn (pst rns h0 h1 h2 z0 z1 g cells evs) k).ended = false := by unfold rn pst; dsimp only; rw [hr]; rfl
    rw [can_free he (by rw [hi]; exact of_decide_eq_true rfl)] at hc
    cases hc
  · have hi : ins (psys n a q b) (pst rns h0 h1 h2 z0 z1 g cells evs) k = ⟨14, 2, 0, 0⟩ := by unfold ins rn pst; dsimp only; rw [hr]; rfl
    have he : (rn (pst rns h0 h1 h2 z0 z1 g cells evs) k).ended = false := by unfold rn pst; dsimp only; rw [hr]; rfl
    rw [can_free he (by rw [hi]; exact of_decide_eq_true rfl)] at hc
    cases hc
  · have hi : ins (psys n a q b) (pst rns h0 h1 h2 z0 z1 g cells evs) k = ⟨14, 3, 0, 0⟩ := by unfold ins rn pst; dsimp only; rw [hr]; rfl
    have he : (rn (pst rns h0 h1 h2 z0 z1 g cells evs) k).ended = false := by unfold rn pst; dsimp only; rw [hr]; rfl
    rw [can_free he (by rw [hi]; exact of_decide_eq_true rfl)] at hc
    cases hc
  · have hi : ins (psys n a q b) (pst rns h0 h1 h2 z0 z1 g cells evs) k = ⟨6, 1, 3, 14⟩ := by unfold ins rn pst; dsimp only; rw [hr]; rfl
    have he : (rn (pst rns h0 h1 h2 z0 z1 g cells evs) k).ended = false := by unfold rn pst; dsimp only; rw [hr]; rfl
    rw [can6 he hi] at hc
    simp [pst, psys] at hc
    have hX := h.z0r
    have hY := h.z1r
    first | omega | (simp_all; done) | (simp_all; omega)
  · have hi : ins (psys n a q b) (pst rns h0 h1 h2 z0 z1 g cells evs) k = ⟨15, 1, 3, 0⟩ := by unfold ins rn pst; dsimp only; rw [hr]; rfl
    have he : (rn (pst rns h0 h1 h2 z0 z1 g cells evs) k).ended = false := by unfold rn pst; dsimp only; rw [hr]; rfl
    rw [can_free he (by rw [hi]; exact of_decide_eq_true rfl)] at hc
    cases hc
  · have hi : ins (psys n a q b) (pst rns h0 h1 h2 z0 z1 g cells evs) k = ⟨4, 0, 0, 11⟩ := by unfold ins rn pst; dsimp only; rw [hr]; rfl
    have he : (rn (pst rns h0 h1 h2 z0 z1 g cells evs) k).ended = false := by unfold rn pst; dsimp only; rw [hr]; rfl
    rw [can_free he (by rw [hi]; exact of_decide_eq_true rfl)] at hc
    cases hc
  · have hi : ins (psys n a q b) (pst rns h0 h1 h2 z0 z1 g cells evs) k = ⟨16, 0, 0, 0⟩ := by unfold ins rn pst; dsimp only; rw [hr]; rfl
    have he : (rn (pst rns h0 h1 h2 z0 z1 g cells evs) k).ended = false := by unfold rn pst; dsimp only; rw [hr]; rfl
    rw [can_free he (by rw [hi]; exact of_decide_eq_true rfl)] at hc
    cases hc
  · exact Or.inl rfl
theorem stW {n a q b : Int} (hy : Hy n a q b) {rns : List Rn} {h0 h1 h2 : List Int} {z0 z1 g : Int} {cells : List Int} {evs : List Ev} (h : IV n a b rns h0 h1 h2 z0 z1 g cells evs.length) {k : Nat} (hk : k < rns.length) (hc : can (psys n a q b) (pst rns h0 h1 h2 z0 z1 g cells evs) k = false) {p : Int} {R : List Int} (hr : rns.getD k r0 = ⟨1, p, R, decide (p = 8)⟩) (hR : R.length = 8) (hA : 0 ≤ p ∧ p ≤ 8) : p = 8 ∨ (p = 0 ∧ h0.length = 0 ∧ z0 = 0) ∨ (p = 3 ∧ b ≤ h2.length) ∨ (p = 4 ∧ q ≤ h1.length) := by
  have hp : p = 0 ∨ p = 1 ∨ p = 2 ∨ p = 3 ∨ p = 4 ∨ p = 5 ∨ p = 6 ∨ p = 7 ∨ p = 8 := by omega
  rcases hp with rfl | rfl | rfl | rfl | rfl | rfl | rfl | rfl | rfl
  · have hi : ins (psys n a q b) (pst rns h0 h1 h2 z0 z1 g cells evs) k = ⟨6, 0, 3, 6⟩ := by unfold ins rn pst; dsimp only; rw [hr]; rfl
    have he : (rn (pst rns h0 h1 h2 z0 z1 g cells evs) k).ended = false := by unfold rn pst; dsimp only; rw [hr]; rfl
    rw [can6 he hi] at hc
    simp [pst, psys] at hc
    have hX := h.z0r
    have hY := h.z1r
    first | omega | (simp_all; done) | (simp_all; omega)
  · have hi : ins (psys n a q b) (pst rns h0 h1 h2 z0 z1 g cells evs) k = ⟨12, 3, 4, 0⟩ := by unfold ins rn pst; dsimp only; rw [hr]; rfl
    have he : (rn (pst rns h0 h1 h2 z0 z1 g cells evs) k).ended = false := by unfold rn pst; dsimp only; rw [hr]; rfl
    rw [can_free he (by rw [hi]; exact of_decide_eq_true rfl)] at hc
    cases hc
  · have hi : ins (psys n a q b) (pst rns h0 h1 h2 z0 z1 g cells evs) k = ⟨15, 0, 4, 0⟩ := by unfold ins rn pst; dsimp only; rw [hr]; rfl
    have he : (rn (pst rns h0 h1 h2 z0 z1 g cells evs) k).ended = false := by unfold rn pst; dsimp only; rw [hr]; rfl
    rw [can_free he (by rw [hi]; exact of_decide_eq_true rfl)] at hc
    cases hc
  · have hi : ins (psys n a q b) (pst rns h0 h1 h2 z0 z1 g cells evs) k = ⟨5, 2, 3, 0⟩ := by unfold ins rn pst; dsimp only; rw [hr]; rfl
    have he : (rn (pst rns h0 h1 h2 z0 z1 g cells evs) k).ended = false := by unfold rn pst; dsimp only; rw [hr]; rfl
    rw [can5 he hi] at hc
    simp [pst, psys] at hc
    have hX := h.z0r
    have hY := h.z1r
    first | omega | (simp_all; done) | (simp_all; omega)
  · have hi : ins (psys n a q b) (pst rns h0 h1 h2 z0 z1 g cells evs) k = ⟨5, 1, 4, 0⟩ := by unfold ins rn pst; dsimp only; rw [hr]; rfl
    have he : (rn (pst rns h0 h1 h2 z0 z1 g cells evs) k).ended = false := by unfold rn pst; dsimp only; rw [hr]; rfl
    rw [can5 he hi] at hc
    simp [pst, psys] at hc
    have hX := h.z0r
    have hY := h.z1r
    first | omega | (simp_all; done) | (simp_all; omega)
  · have hi : ins (psys n a q b) (pst rns h0 h1 h2 z0 z1 g cells evs) k = ⟨4, 0, 0, 0⟩ := by unfold ins rn pst; dsimp only; rw [hr]; rfl
    have he : (rn (pst rns h0 h1 h2 z0 z1 g cells evs) k).ended = false := by unfold rn pst; dsimp only; rw [hr]; rfl
    rw [can_free he (by rw [hi]; exact of_decide_eq_true rfl)] at hc
    cases hc
  · have hi : ins (psys n a q b) (pst rns h0 h1 h2 z0 z1 g cells evs) k = ⟨10, 0, -1, 0⟩ := by unfold ins rn pst; dsimp only; rw [hr]; rfl
    have he : (rn (pst rns h0 h1 h2 z0 z1 g cells evs) k).ended = false := by unfold rn pst; dsimp only; rw [hr]; rfl
    rw [can_free he (by rw [hi]; exact of_decide_eq_true rfl)] at hc
    cases hc
  · have hi : ins (psys n a q b) (pst rns h0 h1 h2 z0 z1 g cells evs) k = ⟨16, 0, 0, 0⟩ := by unfold ins rn pst; dsimp only; rw [hr]; rfl
    have he : (rn (pst rns h0 h1 h2 z0 z1 g cells evs) k).ended = false := by unfold rn pst; dsimp only; rw [hr]; rfl
    rw [can_free he (by rw [hi]; exact of_decide_eq_true rfl)] at hc
    cases hc
  · exact Or.inl rfl
theorem stF {n a q b : Int} (hy : Hy n a q b) {rns : List Rn} {h0 h1 h2 : List Int} {z0 z1 g : Int} {cells : List Int} {evs : List Ev} (h : IV n a b rns h0 h1 h2 z0 z1 g cells evs.length) {k : Nat} (hk : k < rns.length) (hc : can (psys n a q b) (pst rns h0 h1 h2 z0 z1 g cells evs) k = false) {p : Int} {R : List Int} (hr : rns.getD k r0 = ⟨2, p, R, decide (p = 19)⟩) (hR : R.length = 8) (hA : 0 ≤ p ∧ p ≤ 19) : p = 19 ∨ (p = 5 ∧ b ≤ h2.length) ∨ (p = 12 ∧ h2.length = 0) ∨ (p = 14 ∧ q ≤ h0.length) := by
  have hp : p = 0 ∨ p = 1 ∨ p = 2 ∨ p = 3 ∨ p = 4 ∨ p = 5 ∨ p = 6 ∨ p = 7 ∨ p = 8 ∨ p = 9 ∨ p = 10 ∨ p = 11 ∨ p = 12 ∨ p = 13 ∨ p = 14 ∨ p = 15 ∨ p = 16 ∨ p = 17 ∨ p = 18 ∨ p = 19 := by omega
  rcases hp with rfl | rfl | rfl | rfl | rfl | rfl | rfl | rfl | rfl | rfl | rfl | rfl | rfl | rfl | rfl | rfl | rfl | rfl | rfl | rfl
  · have hi : ins (psys n a q b) (pst rns h0 h1 h2 z0 z1 g cells evs) k = ⟨1, 0, 0, 0⟩ := by unfold ins rn pst; dsimp only; rw [hr]; rfl
    have he : (rn (pst rns h0 h1 h2 z0 z1 g cells evs) k).ended = false := by unfold rn pst; dsimp only; rw [hr]; rfl
    rw [can_free he (by rw [hi]; exact of_decide_eq_true rfl)] at hc
    cases hc
  · have hi : ins (psys n a q b) (pst rns h0 h1 h2 z0 z1 g cells evs) k = ⟨1, 1, b, 0⟩ := by unfold ins rn pst; dsimp only; rw [hr]; rfl
    have he : (rn (pst rns h0 h1 h2 z0 z1 g cells evs) k).ended = false := by unfold rn pst; dsimp only; rw [hr]; rfl
    rw [can_free he (by rw [hi]; exact of_decide_eq_true rfl)] at hc
    cases hc
  · have hi : ins (psys n a q b) (pst rns h0 h1 h2 z0 z1 g cells evs) k = ⟨1, 2, 1, 0⟩ := by unfold ins rn pst; dsimp only; rw [hr]; rfl
    have he : (rn (pst rns h0 h1 h2 z0 z1 g cells evs) k).ended = false := by unfold rn pst; dsimp only; rw [hr]; rfl
    rw [can_free he (by rw [hi]; exact of_decide_eq_true rfl)] at hc
    cases hc
  · have hi : ins (psys n a q b) (pst rns h0 h1 h2 z0 z1 g cells evs) k = ⟨3, 0, 1, 5⟩ := by unfold ins rn pst; dsimp only; rw [hr]; rfl
    have he : (rn (pst rns h0 h1 h2 z0 z1 g cells evs) k).ended = false := by unfold rn pst; dsimp only; rw [hr]; rfl
    rw [can_free he (by rw [hi]; exact of_decide_eq_true rfl)] at hc
    cases hc
  · have hi : ins (psys n a q b) (pst rns h0 h1 h2 z0 z1 g cells evs) k = ⟨4, 0, 0, 8⟩ := by unfold ins rn pst; dsimp only; rw [hr]; rfl
    have he : (rn (pst rns h0 h1 h2 z0 z1 g cells evs) k).ended = false := by unfold rn pst; dsimp only; rw [hr]; rfl
    rw [can_free he (by rw [hi]; exact of_decide_eq_true rfl)] at hc
    cases hc
  · have hi : ins (psys n a q b) (pst rns h0 h1 h2 z0 z1 g cells evs) k = ⟨5, 2, 0, 0⟩ := by unfold ins rn pst; dsimp only; rw [hr]; rfl
    have he : (rn (pst rns h0 h1 h2 z0 z1 g cells evs) k).ended = false := by unfold rn pst; dsimp only; rw [hr]; rfl
    rw [can5 he hi] at hc
    simp [pst, psys] at hc
    have hX := h.z0r
    have hY := h.z1r
    first | omega | (simp_all; done) | (simp_all; omega)
  · have hi : ins (psys n a q b) (pst rns h0 h1 h2 z0 z1 g cells evs) k = ⟨2, 0, 2, 0⟩ := by unfold ins rn pst; dsimp only; rw [hr]; rfl
    have he : (rn (pst rns h0 h1 h2 z0 z1 g cells evs) k).ended = false := by unfold rn pst; dsimp only; rw [hr]; rfl
    rw [can_free he (by rw [hi]; exact of_decide_eq_true rfl)] at hc
    cases hc
  · have hi : ins (psys n a q b) (pst rns h0 h1 h2 z0 z1 g cells evs) k = ⟨4, 0, 0, 3⟩ := by unfold ins rn pst; dsimp only; rw [hr]; rfl
    have he : (rn (pst rns h0 h1 h2 z0 z1 g cells evs) k).ended = false := by unfold rn pst; dsimp only; rw [hr]; rfl
    rw [can_free he (by rw [hi]; exact of_decide_eq_true rfl)] at hc
    cases hc
  · have hi : ins (psys n a q b) (pst rns h0 h1 h2 z0 z1 g cells evs) k = ⟨1, 0, 0, 0⟩ := by unfold ins rn pst; dsimp only; rw [hr]; rfl
    have he : (rn (pst rns h0 h1 h2 z0 z1 g cells evs) k).ended = false := by unfold rn pst; dsimp only; rw [hr]; rfl
    rw [can_free he (by rw [hi]; exact of_decide_eq_true rfl)] at hc
    cases hc
  · have hi : ins (psys n a q b) (pst rns h0 h1 h2 z0 z1 g cells evs) k = ⟨1, 1, n, 0⟩ := by unfold ins rn pst; dsimp only; rw [hr]; rfl
    have he : (rn (pst rns h0 h1 h2 z0 z1 g cells evs) k).ended = false := by unfold rn pst; dsimp only; rw [hr]; rfl
    rw [can_free he (by rw [hi]; exact of_decide_eq_true rfl)] at hc
    cases hc
  · have hi : ins (psys n a q b) (pst rns h0 h1 h2 z0 z1 g cells evs) k = ⟨3, 0, 1, 12⟩ := by unfold ins rn pst; dsimp only; rw [hr]; rfl
    have he : (rn (pst rns h0 h1 h2 z0 z1 g cells evs) k).ended = false := by unfold rn pst; dsimp only; rw [hr]; rfl
    rw [can_free he (by rw [hi]; exact of_decide_eq_true rfl)] at hc
    cases hc
  · have hi : ins (psys n a q b) (pst rns h0 h1 h2 z0 z1 g cells evs) k = ⟨4, 0, 0, 17⟩ := by unfold ins rn pst; dsimp only; rw [hr]; rfl
    have he : (rn (pst rns h0 h1 h2 z0 z1 g cells evs) k).ended = false := by unfold rn pst; dsimp only; rw [hr]; rfl
    rw [can_free he (by rw [hi]; exact of_decide_eq_true rfl)] at hc
    cases hc
  · have hi : ins (psys n a q b) (pst rns h0 h1 h2 z0 z1 g cells evs) k = ⟨6, 2, 3, 17⟩ := by unfold ins rn pst; dsimp only; rw [hr]; rfl
    have he : (rn (pst rns h0 h1 h2 z0 z1 g cells evs) k).ended = false := by unfold rn pst; dsimp only; rw [hr]; rfl
    rw [can6 he hi] at hc
    simp [pst, psys] at hc
    have hX := h.z0r
    have hY := h.z1r
    first | omega | (simp_all; done) | (simp_all; omega)
  · have hi : ins (psys n a q b) (pst rns h0 h1 h2 z0 z1 g cells evs) k = ⟨13, 3, 0, 0⟩ := by unfold ins rn pst; dsimp only; rw [hr]; rfl
    have he : (rn (pst rns h0 h1 h2 z0 z1 g cells evs) k).ended = false := by unfold rn pst; dsimp only; rw [hr]; rfl
    rw [can_free he (by rw [hi]; exact of_decide_eq_true rfl)] at hc
    cases hc
  · have hi : ins (psys n a q b) (pst rns h0 h1 h2 z0 z1 g cells evs) k = ⟨5, 0, 3, 0⟩ := by unfold ins rn pst; dsimp only; rw [hr]; rfl
    have he : (rn (pst rns h0 h1 h2 z0 z1 g cells evs) k).ended = false := by unfold rn pst; dsimp only; rw [hr]; rfl
    rw [can5 he hi] at hc
    simp [pst, psys] at hc
    have hX := h.z0r
    have hY := h.z1r
    first | omega | (simp_all; done) | (simp_all; omega)
  · have hi : ins (psys n a q b) (pst rns h0 h1 h2 z0 z1 g cells evs) k = ⟨2, 0, 2, 0⟩ := by unfold ins rn pst; dsimp only; rw [hr]; rfl
    have he : (rn (pst rns h0 h1 h2 z0 z1 g cells evs) k).ended = false := by unfold rn pst; dsimp only; rw [hr]; rfl
    rw [can_free he (by rw [hi]; exact of_decide_eq_true rfl)] at hc
    cases hc
  · have hi : ins (psys n a q b) (pst rns h0 h1 h2 z0 z1 g cells evs) k = ⟨4, 0, 0, 10⟩ := by unfold ins rn pst; dsimp only; rw [hr]; rfl
    have he : (rn (pst rns h0 h1 h2 z0 z1 g cells evs) k).ended = false := by unfold rn pst; dsimp only; rw [hr]; rfl
    rw [can_free he (by rw [hi]; exact of_decide_eq_true rfl)] at hc
    cases hc
  · have hi : ins (psys n a q b) (pst rns h0 h1 h2 z0 z1 g cells evs) k = ⟨7, 0, 0, 0⟩ := by unfold ins rn pst; dsimp only; rw [hr]; rfl
    have he : (rn (pst rns h0 h1 h2 z0 z1 g cells evs) k).ended = false := by unfold rn pst; dsimp only; rw [hr]; rfl
    rw [can_free he (by rw [hi]; exact of_decide_eq_true rfl)] at hc
    cases hc
  · have hi : ins (psys n a q b) (pst rns h0 h1 h2 z0 z1 g cells evs) k = ⟨16, 0, 0, 0⟩ := by unfold ins rn pst; dsimp only; rw [hr]; rfl
    have he : (rn (pst rns h0 h1 h2 z0 z1 g cells evs) k).ended = false := by unfold rn pst; dsimp only; rw [hr]; rfl
    rw [can_free he (by rw [hi]; exact of_decide_eq_true rfl)] at hc
    cases hc
  · exact Or.inl rfl
theorem stK {n a q b : Int} (hy : Hy n a q b) {rns : List Rn} {h0 h1 h2 : List Int} {z0 z1 g : Int} {cells : List Int} {evs : List Ev} (h : IV n a b rns h0 h1 h2 z0 z1 g cells evs.length) {k : Nat} (hk : k < rns.length) (hc : can (psys n a q b) (pst rns h0 h1 h2 z0 z1 g cells evs) k = false) {p : Int} {R : List Int} (hr : rns.getD k r0 = ⟨3, p, R, decide (p = 3)⟩) (hR : R.length = 8) (hA : 0 ≤ p ∧ p ≤ 3) : p = 3 ∨ (p = 0 ∧ g ≠ 0) := by
  have hp : p = 0 ∨ p = 1 ∨ p = 2 ∨ p = 3 := by omega
  rcases hp with rfl | rfl | rfl | rfl
  · have hi : ins (psys n a q b) (pst rns h0 h1 h2 z0 z1 g cells evs) k = ⟨11, 0, 0, 0⟩ := by unfold ins rn pst; dsimp only; rw [hr]; rfl
    have he : (rn (pst rns h0 h1 h2 z0 z1 g cells evs) k).ended = false := by unfold rn pst; dsimp only; rw [hr]; rfl
    rw [can11 he hi] at hc
    simp [pst, psys] at hc
    have hX := h.z0r
    have hY := h.z1r
    first | omega | (simp_all; done) | (simp_all; omega)
  · have hi : ins (psys n a q b) (pst rns h0 h1 h2 z0 z1 g cells evs) k = ⟨7, 1, 0, 0⟩ := by unfold ins rn pst; dsimp only; rw [hr]; rfl
    have he : (rn (pst rns h0 h1 h2 z0 z1 g cells evs) k).ended = false := by unfold rn pst; dsimp only; rw [hr]; rfl
    rw [can_free he (by rw [hi]; exact of_decide_eq_true rfl)] at hc
    cases hc
  · have hi : ins (psys n a q b) (pst rns h0 h1 h2 z0 z1 g cells evs) k = ⟨16, 0, 0, 0⟩ := by unfold ins rn pst; dsimp only; rw [hr]; rfl
    have he : (rn (pst rns h0 h1 h2 z0 z1 g cells evs) k).ended = false := by unfold rn pst; dsimp only; rw [hr]; rfl
    rw [can_free he (by rw [hi]; exact of_decide_eq_true rfl)] at hc
    cases hc
  · exact Or.inl rfl
theorem over_of {t : St} (h : ∀ k, k < t.rns.length → (t.rns.getD k r0).ended = true) : over t = true := by
  unfold over
  rw [List.all_eq_true]
  intro x hx
  obtain ⟨k, hk, rfl⟩ := List.getElem_of_mem hx
  have := h k hk
  rw [List.getD_eq_getElem?_getD, List.getElem?_eq_getElem hk] at this
  exact this
theorem of_over {t : St} (h : over t = true) {k : Nat} (hk : k < t.rns.length) : (t.rns.getD k r0).ended = true := by
  unfold over at h
  rw [List.all_eq_true] at h
  rw [List.getD_eq_getElem?_getD, List.getElem?_eq_getElem hk]
  exact h _ (List.getElem_mem hk)
/-- Nobody is blocked for ever. -/
theorem alive {n a q b : Int} (hy : Hy n a q b) {rns : List Rn} {h0 h1 h2 : List Int} {z0 z1 g : Int} {cells : List Int} {evs : List Ev} (h : IV n a b rns h0 h1 h2 z0 z1 g cells evs.length) (hc : ∀ k, k < rns.length → can (psys n a q b) (pst rns h0 h1 h2 z0 z1 g cells evs) k = false) : over (pst rns h0 h1 h2 z0 z1 g cells evs) = true := by
  have y1 := hy.n0
  have y2 := hy.a0
  have y3 := hy.b0
  have y4 := hy.q0
  have hlb := h.lenb y2.1
  obtain ⟨p, R, hr, hR, hA⟩ := (h.loc 0 hlb.1).c rfl
  have hst := stC hy h hlb.1 (hc 0 hlb.1) hr hR (by unfold CA at hA; omega)
  have hlen : (rns.length : Int) = a + 3 := by
    have := h.len
    rw [hr] at this
    rw [this]
    unfold lenC
    rcases hst with rfl | ⟨rfl, _⟩ <;> simp
  have hW : ∀ k : Nat, 1 ≤ k → (k : Int) ≤ a → ∃ p R, rns.getD k r0 = ⟨1, p, R, decide (p = 8)⟩ ∧ WA z0 h0.length p ∧ (p = 8 ∨ (p = 0 ∧ h0.length = 0 ∧ z0 = 0) ∨ (p = 3 ∧ b ≤ h2.length) ∨ (p = 4 ∧ q ≤ h1.length)) := fun k h1 h2 => by
    have hk : k < rns.length := by omega
    obtain ⟨p, R, hr, hR, hA⟩ := (h.loc k hk).w h1 h2
    exact ⟨p, R, hr, hA, stW hy h hk (hc k hk) hr hR (by unfold WA at hA; omega)⟩
  have hfk : (a + 1).toNat < rns.length := by omega
  obtain ⟨pf, Rf, hrf, hRf, hAf⟩ := (h.loc (a + 1).toNat hfk).f (by omega)
  have hsf := stF hy h hfk (hc _ hfk) hrf hRf (by unfold FA at hAf; omega)
  have hkk : (a + 2).toNat < rns.length := by omega
  obtain ⟨pk, Rk, hrk, hRk, hAk⟩ := (h.loc (a + 2).toNat hkk).k (by omega)
  have hsk := stK hy h hkk (hc _ hkk) hrk hRk (by unfold KA at hAk; omega)
  have hgW : ∀ k : Nat, 1 ≤ k → (k : Int) ≤ a → ∀ p R, rns.getD k r0 = ⟨1, p, R, decide (p = 8)⟩ → 0 ≤ p → p ≤ 6 → 1 ≤ g := fun k h1 h2 p R he h3 h4 => by
    refine h.g1 (k := k) (by omega) ?_
    rw [he]
    have : p ≠ 8 := by omega
    simp [gc, this, h4]
  -- a worker that waits for room among the free ones: there is room
  have hno3 : ∀ k : Nat, 1 ≤ k → (k : Int) ≤ a → ∀ R, rns.getD k r0 = ⟨1, 3, R, decide ((3 : Int) = 8)⟩ → b ≤ h2.length → False := fun k h1 h2' R he hb => by
    have h6 := sm_ge2 (tok b) rns (a + 1).toNat k hfk (by omega) (by omega) (fun j hj hj1 hj2 => by
      by_cases e0 : j = 0
      · subst e0; rw [hr]; simp [tok]
      by_cases e1 : (j : Int) ≤ a
      · obtain ⟨p, R, e, _, _⟩ := hW j (by omega) e1
        rw [e]
        simp only [tok]
        simp
        (repeat' split) <;> omega
      · have e2 : j = (a + 2).toNat := by omega
        subst e2
        rw [hrk]; simp [tok]) (by simp [tok, r0])
    have h7 := h.tk
    rw [he, hrf] at h6
    have h8 : -b ≤ tok b ⟨2, pf, Rf, decide (pf = 19)⟩ := by
      unfold FA at hAf
      simp only [tok, tF]
      simp [-List.getD_eq_getElem?_getD]
      (repeat' split) <;> omega
    have h9 : tok b ⟨1, 3, R, decide ((3 : Int) = 8)⟩ = 1 := by simp [tok]
    omega
  rcases hst with rfl | ⟨rfl, hx1, hz1⟩
  · -- the combiner has ended
    have hz : z1 = 1 ∧ (h1.length : Int) = 0 := by unfold CA at hA; omega
    have hpk : pk = 3 := by unfold KA at hAk; omega
    have hg : g = 0 := by unfold KA at hAk; omega
    have hWe : ∀ k : Nat, 1 ≤ k → (k : Int) ≤ a → ∃ R, rns.getD k r0 = ⟨1, 8, R, true⟩ ∧ z0 = 1 := fun k h1 h2 => by
      obtain ⟨p, R, e, hw, hs⟩ := hW k h1 h2
      have := hgW k h1 h2 p R e
      have hp8 : p = 8 := by unfold WA at hw; omega
      subst hp8
      exact ⟨R, e, by unfold WA at hw; omega⟩
    obtain ⟨_, _, hz0⟩ := hWe 1 (Nat.le_refl _) (by omega)
    have hpf : pf = 19 := by unfold FA at hAf; omega
    refine over_of fun k hk => ?_
    have hk' : k < rns.length := hk
    show (rns.getD k r0).ended = true
    by_cases e0 : k = 0
    · subst e0; rw [hr]; rfl
    by_cases e1 : (k : Int) ≤ a
    · obtain ⟨R, e, _⟩ := hWe k (by omega) e1
      rw [e]
    by_cases e2 : (k : Int) = a + 1
    · have e3 : k = (a + 1).toNat := by omega
      rw [e3, hrf, hpf]; rfl
    · have e3 : k = (a + 2).toNat := by omega
      rw [e3, hrk, hpk]; rfl
  · exfalso
    have hgn : g ≠ 0 := by unfold KA at hAk; omega
    have hWs : ∀ k : Nat, 1 ≤ k → (k : Int) ≤ a → ∃ p R, rns.getD k r0 = ⟨1, p, R, decide (p = 8)⟩ ∧ WA z0 h0.length p ∧ (p = 8 ∨ (p = 0 ∧ h0.length = 0 ∧ z0 = 0)) := fun k h1 h2 => by
      obtain ⟨p, R, e, hw, hs⟩ := hW k h1 h2
      refine ⟨p, R, e, hw, ?_⟩
      rcases hs with hs | hs | ⟨rfl, hs⟩ | hs
      · exact .inl hs
      · exact .inr hs
      · exact (hno3 k h1 h2 R e hs).elim
      · omega
    rcases h.z0r with hz | hz
    · -- all workers wait for jobs
      have hx0 : h0.length = 0 := by
        obtain ⟨p, R, e, hw, hs⟩ := hWs 1 (Nat.le_refl _) (by omega)
        unfold WA at hw
        omega
      have h6 := sm_one (tok b) rns (a + 1).toNat hfk (fun j hj hj1 => by
        by_cases e0 : j = 0
        · subst e0; rw [hr]; simp [tok]
        by_cases e1 : (j : Int) ≤ a
        · obtain ⟨p, R, e, hw, hs⟩ := hWs j (by omega) e1
          have : p = 0 := by unfold WA at hw; omega
          subst this
          rw [e]
          simp [tok]
        · have e2 : j = (a + 2).toNat := by omega
          subst e2
          rw [hrk]; simp [tok]) (by simp [tok, r0])
      have h7 := h.tk
      rw [hrf] at h6
      rcases hsf with rfl | ⟨rfl, hx⟩ | ⟨rfl, hx⟩ | ⟨rfl, hx⟩
      · unfold FA at hAf; omega
      · unfold FA at hAf
        simp [-List.getD_eq_getElem?_getD, tok, tF] at h6
        omega
      · simp [-List.getD_eq_getElem?_getD, tok, tF] at h6
        omega
      · omega
    · have h6 := sm_zero gc rns (fun j hj => by
        by_cases e0 : j = 0
        · subst e0; rw [hr]; simp [gc]
        by_cases e1 : (j : Int) ≤ a
        · obtain ⟨p, R, e, hw, hs⟩ := hWs j (by omega) e1
          have : p = 8 := by omega
          subst this
          rw [e]
          simp [gc]
        by_cases e2 : (j : Int) = a + 1
        · have e3 : j = (a + 1).toNat := by omega
          rw [e3, hrf]; simp [gc]
        · have e3 : j = (a + 2).toNat := by omega
          rw [e3, hrk]; simp [gc])
      have := h.gp
      omega
theorem w_nn {n a b z0 z1 x0 x1 g : Int} {j : Nat} {r : Rn} (hn : 0 ≤ n) (ha : 1 ≤ a) (hb : 1 ≤ b) (h : Loc n a b z0 z1 x0 x1 g j r) : 0 ≤ w n a b r := by
  by_cases e0 : j = 0
  · obtain ⟨p, R, rfl, _, hA⟩ := h.c e0
    unfold CA at hA
    have hp : p = 0 ∨ p = 1 ∨ p = 2 ∨ p = 3 ∨ p = 4 ∨ p = 5 ∨ p = 6 ∨ p = 7 ∨ p = 8 ∨ p = 9 ∨ p = 10 ∨ p = 11 ∨ p = 12 ∨ p = 13 ∨ p = 14 ∨ p = 15 := by omega
    rcases hp with rfl | rfl | rfl | rfl | rfl | rfl | rfl | rfl | rfl | rfl | rfl | rfl | rfl | rfl | rfl | rfl <;> simp [-List.getD_eq_getElem?_getD, w, wC] <;> omega
  by_cases e1 : (j : Int) ≤ a
  · obtain ⟨p, R, rfl, _, hA⟩ := h.w (by omega) e1
    unfold WA at hA
    have hp : p = 0 ∨ p = 1 ∨ p = 2 ∨ p = 3 ∨ p = 4 ∨ p = 5 ∨ p = 6 ∨ p = 7 ∨ p = 8 := by omega
    rcases hp with rfl | rfl | rfl | rfl | rfl | rfl | rfl | rfl | rfl <;> simp [-List.getD_eq_getElem?_getD, w, wW] <;> omega
  by_cases e2 : (j : Int) = a + 1
  · obtain ⟨p, R, rfl, _, hA⟩ := h.f e2
    unfold FA at hA
    have hp : p = 0 ∨ p = 1 ∨ p = 2 ∨ p = 3 ∨ p = 4 ∨ p = 5 ∨ p = 6 ∨ p = 7 ∨ p = 8 ∨ p = 9 ∨ p = 10 ∨ p = 11 ∨ p = 12 ∨ p = 13 ∨ p = 14 ∨ p = 15 ∨ p = 16 ∨ p = 17 ∨ p = 18 ∨ p = 19 := by omega
    rcases hp with rfl | rfl | rfl | rfl | rfl | rfl | rfl | rfl | rfl | rfl | rfl | rfl | rfl | rfl | rfl | rfl | rfl | rfl | rfl | rfl <;> simp [-List.getD_eq_getElem?_getD, w, wF] <;> omega
  · obtain ⟨p, R, rfl, _, hA⟩ := h.k (by omega)
    unfold KA at hA
    have hp : p = 0 ∨ p = 1 ∨ p = 2 ∨ p = 3 := by omega
    rcases hp with rfl | rfl | rfl | rfl <;> simp [-List.getD_eq_getElem?_getD, w, wK] <;> omega
theorem IV.short {n a q b : Int} (hy : Hy n a q b) {rns : List Rn} {h0 h1 h2 : List Int} {z0 z1 g : Int} {cells : List Int} {evs : List Ev} (h : IV n a b rns h0 h1 h2 z0 z1 g cells evs.length) : (evs.length : Int) ≤ 23 + 8 * a + 4 * b + 15 * n := by
  have y1 := hy.n0
  have y2 := hy.a0
  have y3 := hy.b0
  have := sm_nn (w n a b) rns (fun j hj => w_nn y1.1 y2.1 y3.1 (h.loc j hj))
  have := h.ms
  omega
theorem IV.done {n a q b : Int} (hy : Hy n a q b) {rns : List Rn} {h0 h1 h2 : List Int} {z0 z1 g : Int} {cells : List Int} {evs : List Ev} (h : IV n a b rns h0 h1 h2 z0 z1 g cells evs.length) (ho : over (pst rns h0 h1 h2 z0 z1 g cells evs) = true) : (evs.length : Int) = 23 + 8 * a + 4 * b + 15 * n ∧ (rns.length : Int) = a + 3 := by
  have y1 := hy.n0
  have y2 := hy.a0
  have y3 := hy.b0
  have hlb := h.lenb y2.1
  have hE : ∀ k, k < rns.length → (rns.getD k r0).ended = true := fun k hk => of_over ho hk
  obtain ⟨p, R, hr, hR, hA⟩ := (h.loc 0 hlb.1).c rfl
  have e0 := hE 0 hlb.1
  rw [hr] at e0
  obtain rfl : p = 15 := of_decide_eq_true e0
  have hlen : (rns.length : Int) = a + 3 := by
    have := h.len
    rw [hr] at this
    rw [this]
    simp [lenC]
  have hx1 : (h1.length : Int) = 0 := by unfold CA at hA; omega
  obtain ⟨p1, R1, hr1, hR1, hA1⟩ := (h.loc 1 (by omega)).w (Nat.le_refl _) (by omega)
  have e1 := hE 1 (by omega)
  rw [hr1] at e1
  obtain rfl : p1 = 8 := of_decide_eq_true e1
  have hx0 : (h0.length : Int) = 0 := by unfold WA at hA1; omega
  have h5 := sm_zero (w n a b) rns (fun k hk => by unfold w; rw [if_pos (hE k hk)])
  have := h.ms
  exact ⟨by omega, hlen⟩
/-- Every run is done, in as many steps as are told ahead, with as many runners; and what holds of every state holds at the end. -/
theorem runQ {n a q b : Int} (hy : Hy n a q b) (picks : List Int) : ∀ (f : Nat) (rns : List Rn) (h0 h1 h2 : List Int) (z0 z1 g : Int) (cells : List Int) (evs : List Ev), IV n a b rns h0 h1 h2 z0 z1 g cells evs.length → 40001 ≤ f + evs.length →
    ∃ t, run (psys n a q b) picks f (pst rns h0 h1 h2 z0 z1 g cells evs) = (1, 0, t) ∧ (t.evs.length : Int) = 23 + 8 * a + 4 * b + 15 * n ∧ (t.rns.length : Int) = a + 3
  | 0, rns, h0, h1, h2, z0, z1, g, cells, evs, h, hf => by
    have := IV.short hy h
    have y1 := hy.n0
    have y2 := hy.a0
    have y3 := hy.b0
    omega
  | f + 1, rns, h0, h1, h2, z0, z1, g, cells, evs, h, hf => by
    have hs := IV.short hy h
    have y1 := hy.n0
    have y2 := hy.a0
    have y3 := hy.b0
    rw [run]
    by_cases ho : over (pst rns h0 h1 h2 z0 z1 g cells evs) = true
    · have hfin : fin (psys n a q b) (pst rns h0 h1 h2 z0 z1 g cells evs) = 1 := by unfold fin; rw [if_pos ho]
      rw [if_pos (by rw [hfin]; decide), hfin]
      exact ⟨_, rfl, IV.done hy h ho⟩
    · have hfin : fin (psys n a q b) (pst rns h0 h1 h2 z0 z1 g cells evs) = 0 := by
        unfold fin
        rw [if_neg ho, if_neg (by show ¬ 40000 ≤ evs.length; omega), if_neg]
        intro hrd
        refine ho (alive hy h fun k hk => ?_)
        unfold ready at hrd
        have h9 := List.filter_eq_nil_iff.1 hrd k (List.mem_range.2 hk)
        simpa using h9
      obtain ⟨hk, hc⟩ := turn_ok (picks := picks) hfin
      obtain ⟨hb, rns', h0', h1', h2', z0', z1', g', cells', hst, hiv⟩ := go hy h hk hc
      rw [if_neg (by rw [hfin]; decide), if_neg (by rw [hb]; decide), hst]
      have hev : (((pst rns h0 h1 h2 z0 z1 g cells evs)).evs ++ [ev (psys n a q b) (pst rns h0 h1 h2 z0 z1 g cells evs) (turn (psys n a q b) picks (pst rns h0 h1 h2 z0 z1 g cells evs))]).length = evs.length + 1 := by simp [pst]
      have hiv' : IV n a b rns' h0' h1' h2' z0' z1' g' cells' (((pst rns h0 h1 h2 z0 z1 g cells evs)).evs ++ [ev (psys n a q b) (pst rns h0 h1 h2 z0 z1 g cells evs) (turn (psys n a q b) picks (pst rns h0 h1 h2 z0 z1 g cells evs))]).length := by
        rw [hev]
        exact hiv
      exact runQ hy picks f rns' h0' h1' h2' z0' z1' g' cells' _ hiv' (by rw [hev]; omega)
theorem iv_first {n a q b : Int} (hy : Hy n a q b) : IV n a b [⟨0, 0, List.replicate 8 0, false⟩] [] [] [] 0 0 0 (List.replicate b.toNat 0) ([] : List Ev).length := by
  have y1 := hy.n0
  have y2 := hy.a0
  have y3 := hy.b0
  refine ⟨by simp [lenC], fun j hj => ?_, fun _ => rfl, fun _ => rfl, .inl rfl, .inl rfl, by simp [sm, tok], by simp [sm, gc], ?_, by simp; omega⟩
  · obtain rfl : j = 0 := by simp at hj; omega
    exact Loc.mkC y2.1 ⟨0, _, rfl, rfl, by unfold CA; omega⟩
  · simp [sm, w, wC]
    omega
theorem playQ {n a q b : Int} (hy : Hy n a q b) (picks : List Int) : ∃ t, play (psys n a q b) picks = (1, 0, t) ∧ (t.evs.length : Int) = 23 + 8 * a + 4 * b + 15 * n ∧ (t.rns.length : Int) = a + 3 := by
  have h := runQ hy picks 40001 _ _ _ _ _ _ _ _ _ (iv_first hy) (by simp)
  exact h
theorem nmP {n a q b : Int} (hy : Hy n a q b) : Nm (psys n a q b) := by
  have y1 := hy.n0
  have y2 := hy.a0
  have y3 := hy.b0
  intro p j
  have hx : ∀ l : List Ins, (∀ i ∈ l, i64 i.b) → ∀ j, i64 (l.getD j i0).b := fun l hl j => by
    rw [List.getD_eq_getElem?_getD]
    rcases hj : l[j]? with _ | i
    · exact i64_0
    · exact hl i (List.mem_of_getElem? hj)
  rcases p with _ | _ | _ | _ | p
  · refine hx (cmP a) (fun i hi => ?_) j
    simp [cmP] at hi
    rcases hi with rfl | rfl | rfl | rfl | rfl | rfl | rfl | rfl | rfl | rfl | rfl | rfl | rfl | rfl | rfl <;> (unfold i64; dsimp only; omega)
  · refine hx wkP (fun i hi => ?_) j
    simp [wkP] at hi
    rcases hi with rfl | rfl | rfl | rfl | rfl | rfl | rfl | rfl <;> (unfold i64; dsimp only; omega)
  · refine hx (fdP b n) (fun i hi => ?_) j
    simp [fdP] at hi
    rcases hi with rfl | rfl | rfl | rfl | rfl | rfl | rfl | rfl | rfl | rfl | rfl | rfl | rfl | rfl | rfl | rfl | rfl | rfl | rfl <;> (unfold i64; dsimp only; omega)
  · refine hx clP (fun i hi => ?_) j
    simp [clP] at hi
    rcases hi with rfl | rfl | rfl <;> (unfold i64; dsimp only; omega)
  · exact i64_0
theorem okP {n a q b : Int} (hy : Hy n a q b) (hq : q ≤ 1024) : Ok (psys n a q b) := by
  have y1 := hy.n0
  have y2 := hy.a0
  have y3 := hy.b0
  have y4 := hy.q0
  refine ⟨of_decide_eq_true rfl, of_decide_eq_true rfl, of_decide_eq_true rfl, ⟨of_decide_eq_true rfl, of_decide_eq_true rfl⟩, ⟨of_decide_eq_true rfl, of_decide_eq_true rfl⟩, ⟨by show 0 ≤ b; omega, by show b ≤ 64; omega⟩, fun i hi => ?_, fun p hp => ?_, fun p hp j hj => ?_⟩
  · have hi3 : i < 3 := hi
    have : i = 0 ∨ i = 1 ∨ i = 2 := by omega
    rcases this with rfl | rfl | rfl
    · exact ⟨y4, hq⟩
    · exact ⟨y4, hq⟩
    · exact ⟨y3.1, by show b ≤ 1024; omega⟩
  · have hp4 : p < 4 := hp
    have : p = 0 ∨ p = 1 ∨ p = 2 ∨ p = 3 := by omega
    rcases this with rfl | rfl | rfl | rfl <;> exact of_decide_eq_true rfl
  · have hp4 : p < 4 := hp
    have hc : 0 < (psys n a q b).cells := by show 0 < b; omega
    have : p = 0 ∨ p = 1 ∨ p = 2 ∨ p = 3 := by omega
    rcases this with rfl | rfl | rfl | rfl
    · have hj' : j < 15 := hj
      have : j = 0 ∨ j = 1 ∨ j = 2 ∨ j = 3 ∨ j = 4 ∨ j = 5 ∨ j = 6 ∨ j = 7 ∨ j = 8 ∨ j = 9 ∨ j = 10 ∨ j = 11 ∨ j = 12 ∨ j = 13 ∨ j = 14 := by omega
      rcases this with rfl | rfl | rfl | rfl | rfl | rfl | rfl | rfl | rfl | rfl | rfl | rfl | rfl | rfl | rfl <;> exact ⟨of_decide_eq_true rfl, of_decide_eq_true rfl, by first | exact .inl rfl | exact .inr ⟨of_decide_eq_true rfl, of_decide_eq_true rfl⟩, by first | exact .inl rfl | exact .inr ⟨of_decide_eq_true rfl, of_decide_eq_true rfl⟩, by first | exact .inl rfl | exact .inr ⟨of_decide_eq_true rfl, of_decide_eq_true rfl⟩, fun _ => hc⟩
    · have hj' : j < 8 := hj
      have : j = 0 ∨ j = 1 ∨ j = 2 ∨ j = 3 ∨ j = 4 ∨ j = 5 ∨ j = 6 ∨ j = 7 := by omega
      rcases this with rfl | rfl | rfl | rfl | rfl | rfl | rfl | rfl <;> exact ⟨of_decide_eq_true rfl, of_decide_eq_true rfl, by first | exact .inl rfl | exact .inr ⟨of_decide_eq_true rfl, of_decide_eq_true rfl⟩, by first | exact .inl rfl | exact .inr ⟨of_decide_eq_true rfl, of_decide_eq_true rfl⟩, by first | exact .inl rfl | exact .inr ⟨of_decide_eq_true rfl, of_decide_eq_true rfl⟩, fun _ => hc⟩
    · have hj' : j < 19 := hj
      have : j = 0 ∨ j = 1 ∨ j = 2 ∨ j = 3 ∨ j = 4 ∨ j = 5 ∨ j = 6 ∨ j = 7 ∨ j = 8 ∨ j = 9 ∨ j = 10 ∨ j = 11 ∨ j = 12 ∨ j = 13 ∨ j = 14 ∨ j = 15 ∨ j = 16 ∨ j = 17 ∨ j = 18 := by omega
      rcases this with rfl | rfl | rfl | rfl | rfl | rfl | rfl | rfl | rfl | rfl | rfl | rfl | rfl | rfl | rfl | rfl | rfl | rfl | rfl <;> exact ⟨of_decide_eq_true rfl, of_decide_eq_true rfl, by first | exact .inl rfl | exact .inr ⟨of_decide_eq_true rfl, of_decide_eq_true rfl⟩, by first | exact .inl rfl | exact .inr ⟨of_decide_eq_true rfl, of_decide_eq_true rfl⟩, by first | exact .inl rfl | exact .inr ⟨of_decide_eq_true rfl, of_decide_eq_true rfl⟩, fun _ => hc⟩
    · have hj' : j < 3 := hj
      have : j = 0 ∨ j = 1 ∨ j = 2 := by omega
      rcases this with rfl | rfl | rfl <;> exact ⟨of_decide_eq_true rfl, of_decide_eq_true rfl, by first | exact .inl rfl | exact .inr ⟨of_decide_eq_true rfl, of_decide_eq_true rfl⟩, by first | exact .inl rfl | exact .inr ⟨of_decide_eq_true rfl, of_decide_eq_true rfl⟩, by first | exact .inl rfl | exact .inr ⟨of_decide_eq_true rfl, of_decide_eq_true rfl⟩, fun _ => hc⟩
end PQ
end Mc
end Go.Proofs.Ytghpfhoajcgghaa
