/-
  Plain facts on the rows of a tree and the places in them.
-/
import Derived.Test.YtcpegipojkbcoaaSh5
namespace Go.Proofs.Ytcpegipojkbcoaa
set_option linter.unusedVariables false
set_option linter.unusedSimpArgs false
namespace LW
theorem up_pos {n b : Nat} (hb : 0 < b) (hn : 0 < n) : 0 < up n b := by
  unfold up
  split
  · rename_i h
    exact Nat.div_pos (Nat.le_of_dvd hn (Nat.dvd_of_mod_eq_zero h)) hb
  · exact Nat.succ_pos _
/-- Where a part lies. -/
theorem up_lt {n b a : Nat} (hb : 0 < b) (ha : a < up n b) : a * b < n := by
  have hd := Nat.div_add_mod' n b
  have hm := Nat.mod_lt n hb
  unfold up at ha
  split at ha
  · rename_i h
    have h1 : (a + 1) * b ≤ n / b * b := Nat.mul_le_mul_right b (by omega)
    rw [Nat.succ_mul] at h1
    omega
  · rename_i h
    have h1 : a * b ≤ n / b * b := Nat.mul_le_mul_right b (by omega)
    omega
theorem up_last {n b a : Nat} (hb : 0 < b) (ha : a + 1 = up n b) : n ≤ a * b + b := by
  have hd := Nat.div_add_mod' n b
  have hm := Nat.mod_lt n hb
  unfold up at ha
  split at ha
  · rename_i h
    have h1 : n / b * b = (a + 1) * b := by rw [← ha]
    rw [Nat.succ_mul] at h1
    omega
  · rename_i h
    have h1 : n / b * b = a * b := by rw [show n / b = a by omega]
    omega
theorem up_full {n b a : Nat} (hb : 0 < b) (ha : a + 1 < up n b) : a * b + b ≤ n := by
  have := up_lt hb ha
  rw [Nat.succ_mul] at this
  omega
theorem nx_pos {f dp r : Int} {n : Nat} (hf : f = 0 ∨ (2 ≤ f ∧ f ≤ 255)) (hn : 0 < n) : 0 < nx f dp r n := by
  unfold nx
  split
  · omega
  · exact up_pos (by omega) hn
theorem ab_get0 {f dp : Int} {k r n : Nat} : (ab f dp (k + 1) r n).getD 0 0 = nx f dp r n := by
  unfold ab
  simp
/-- The rows above: the i-th is the next of the one below it. -/
theorem ab_next (f dp : Int) : ∀ (k r n i : Nat), i < (ab f dp k r n).length → (ab f dp k r n).getD i 0 = nx f dp ((r + i : Nat) : Int) ((n :: ab f dp k r n).getD i 0)
  | 0, _, _, _, h => by simp [ab] at h
  | k + 1, r, n, 0, _ => by simp [ab]
  | k + 1, r, n, i + 1, h => by
    rw [ab] at h ⊢
    split at h
    · simp at h
    · rename_i h1
      rw [if_neg h1]
      simp only [List.length_cons] at h
      have := ab_next f dp k (r + 1) (nx f dp r n) i (by omega)
      rw [List.getD_cons_succ, this, List.getD_cons_succ]
      rw [show r + 1 + i = r + (i + 1) by omega]
/-- Just the last of them is one node. -/
theorem ab_one (f dp : Int) : ∀ (k r n i : Nat), (r : Int) + k = dp → i < (ab f dp k r n).length → ((ab f dp k r n).getD i 0 = 1 ↔ i + 1 = (ab f dp k r n).length)
  | 0, _, _, _, _, h => by simp [ab] at h
  | k + 1, r, n, i, hd, h => by
    rw [ab] at h ⊢
    by_cases h1 : nx f dp r n = 1
    · rw [if_pos h1] at h ⊢
      simp only [List.length_cons, List.length_nil] at h
      have : i = 0 := by omega
      subst this
      simp [h1]
    · rw [if_neg h1] at h ⊢
      cases i with
      | zero =>
        simp only [List.getD_cons_zero, List.length_cons, h1, false_iff]
        cases k with
        | zero =>
          exfalso
          apply h1
          unfold nx
          rw [if_pos (.inr (by omega))]
        | succ k =>
          rw [ab]
          simp
      | succ i =>
        simp only [List.length_cons] at h
        have := ab_one f dp k (r + 1) (nx f dp r n) i (by omega) (by omega)
        rw [List.getD_cons_succ, this, List.length_cons]
        omega
/-- What holds of a tree's rows: from the leaves m on. -/
structure Rws (T : Tr) (m : Nat) (R : List Nat) : Prop where
  first : R.getD 0 0 = m
  two : 2 ≤ R.length
  most : R.length ≤ 255
  next : ∀ i, i + 1 < R.length → R.getD (i + 1) 0 = nx T.f T.dp ((i + 1 : Nat) : Int) (R.getD i 0)
  one : ∀ i, i + 1 < R.length → (R.getD (i + 1) 0 = 1 ↔ i + 2 = R.length)
  pos : ∀ i, i < R.length → 0 < R.getD i 0
  small : ∀ i, i < R.length → R.getD i 0 < 18446744073709551616
theorem rws {T : Tr} {m : Nat} (hv : vd T = 0) (h0 : 0 < m) (hm : m < 18446744073709551616) : Rws T m (m :: ab T.f T.dp (T.dp.toNat - 1) 1 m) := by
  obtain ⟨h1, hf, h4, h5, _⟩ := vd_ok hv
  have hnext : ∀ i, i + 1 < (m :: ab T.f T.dp (T.dp.toNat - 1) 1 m).length → (m :: ab T.f T.dp (T.dp.toNat - 1) 1 m).getD (i + 1) 0 = nx T.f T.dp ((i + 1 : Nat) : Int) ((m :: ab T.f T.dp (T.dp.toNat - 1) 1 m).getD i 0) := by
    intro i hi
    rw [List.getD_cons_succ, ab_next _ _ _ _ _ _ (by simpa using hi), Nat.add_comm 1 i]
  refine ⟨rfl, ?_, ?_, hnext, ?_, ?_, ?_⟩
  · rw [show T.dp.toNat - 1 = (T.dp.toNat - 2) + 1 by omega, ab]
    simp
  · have := ab_len T.f T.dp (T.dp.toNat - 1) 1 m
    simp only [List.length_cons]
    omega
  · intro i hi
    simp only [List.length_cons] at hi
    rw [List.getD_cons_succ, ab_one _ _ _ _ _ _ (by omega) (by omega), List.length_cons]
    omega
  · intro i
    induction i with
    | zero => intro _; exact h0
    | succ i ih => intro hi; rw [hnext i hi]; exact nx_pos hf (ih (by omega))
  · intro i
    induction i with
    | zero => intro _; exact hm
    | succ i ih => intro hi; rw [hnext i hi]; exact nx_lt hf (ih (by omega))
end LW
end Go.Proofs.Ytcpegipojkbcoaa
