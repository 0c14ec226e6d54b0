/-
  Plain facts on the edges: so many bytes lie in so many rows, one byte more in one row more.
-/
import Derived.Test.YtfcbhbpillbapaaMost
import Derived.Test.YtfcbhbpillbapaaSh4
namespace Go.Proofs.Ytfcbhbpillbapaa
set_option linter.unusedVariables false
set_option linter.unusedSimpArgs false
namespace LW
theorem up_mul (L q : Nat) (hL : 0 < L) : up (L * q) L = q := by
  unfold up
  rw [if_pos (Nat.mul_mod_right L q), Nat.mul_div_cancel_left q hL]
theorem up_mul1 (L q : Nat) (hL : 0 < L) : up (L * q + 1) L = q + 1 := by
  unfold up
  rcases Nat.lt_or_ge 1 L with h | h
  · have e1 : (L * q + 1) % L = 1 := by rw [Nat.mul_add_mod, Nat.mod_eq_of_lt h]
    have e2 : (L * q + 1) / L = q := by rw [Nat.mul_add_div hL, Nat.div_eq_of_lt h, Nat.add_zero]
    rw [if_neg (by omega), e2]
  · obtain rfl : L = 1 := by omega
    simp [Nat.mod_one]
theorem ab_pow (f dp : Int) (F : Nat) (hF : f = (F : Int)) (h2 : 2 ≤ F) : ∀ (j k i : Nat), (ab f dp k i (F ^ (j + 1))).length ≤ j + 1
  | _, 0, _ => Nat.zero_le _
  | 0, k + 1, i => by
    have e : nx f dp i (F ^ (0 + 1)) = 1 := by
      unfold nx
      split
      · rfl
      · rw [hF, Int.toNat_natCast, Nat.pow_succ, Nat.mul_comm]; exact up_mul F (F ^ 0) (by omega)
    unfold ab
    rw [if_pos e]
    simp
  | j + 1, k + 1, i => by
    unfold ab
    split
    · simp
    · rename_i h
      have e : nx f dp i (F ^ (j + 1 + 1)) = F ^ (j + 1) := by
        unfold nx at h ⊢
        split
        · rename_i h'; rw [if_pos h'] at h; exact absurd rfl h
        · rw [hF, Int.toNat_natCast, Nat.pow_succ, Nat.mul_comm]; exact up_mul F _ (by omega)
      rw [e]
      have := ab_pow f dp F hF h2 j k (i + 1)
      simp only [List.length_cons]
      omega
theorem ab_pow1 (f dp : Int) (F : Nat) (hF : f = (F : Int)) (h2 : 2 ≤ F) : ∀ (j k i : Nat), j + 1 ≤ k → (i : Int) + j < dp → (ab f dp k i (F ^ j + 1)).length = j + 1
  | _, 0, _, h, _ => by omega
  | 0, k + 1, i, _, hi => by
    have e : nx f dp i (F ^ 0 + 1) = 1 := by
      unfold nx
      split
      · rfl
      · rw [hF, Int.toNat_natCast, Nat.pow_zero]
        unfold up
        rcases Nat.lt_or_ge 2 F with h | h
        · rw [Nat.mod_eq_of_lt h, if_neg (by omega), Nat.div_eq_of_lt h]
        · obtain rfl : F = 2 := by omega
          rfl
    unfold ab
    rw [if_pos e]
    simp
  | j + 1, k + 1, i, hk, hi => by
    have e : nx f dp i (F ^ (j + 1) + 1) = F ^ j + 1 := by
      unfold nx
      rw [if_neg (by omega), hF, Int.toNat_natCast, Nat.pow_succ, Nat.mul_comm]
      exact up_mul1 F _ (by omega)
    have hp : 0 < F ^ j := Nat.pow_pos (by omega)
    unfold ab
    rw [e, if_neg (by omega)]
    have := ab_pow1 f dp F hF h2 j k (i + 1) (by omega) (by omega)
    simp only [List.length_cons]
    omega
/-- At so many bytes. -/
theorem edge0 (T : Tr) (hT : 0 ≤ T.lf) (r : Int) (hv : vd T = 0) (hf : T.f ≠ 0) (h2 : 2 ≤ r) : ((roL T (msN T r)).length : Int) ≤ r := by
  obtain ⟨h1, h3, h4, h5, _⟩ := vd_ok hv
  obtain ⟨j, hj⟩ : ∃ j : Nat, r = (j : Int) + 2 := ⟨(r - 2).toNat, by omega⟩
  have e : lv T (msN T r) = T.f.toNat ^ (j + 1) := by
    unfold lv msN
    rw [show r.toNat - 1 = j + 1 by omega, up_mul _ _ (by omega)]
    have : 0 < T.f.toNat ^ (j + 1) := Nat.pow_pos (by omega)
    omega
  unfold roL
  rw [e]
  have := ab_pow T.f T.dp T.f.toNat (by omega) (by omega) j (T.dp.toNat - 1) 1
  simp only [List.length_cons]
  omega
/-- At one byte more. -/
theorem edge1 (T : Tr) (hT : 0 ≤ T.lf) (r : Int) (hv : vd T = 0) (hf : T.f ≠ 0) (h2 : 2 ≤ r) (hd : r < T.dp) : ((roL T (msN T r + 1)).length : Int) = r + 1 := by
  obtain ⟨h1, h3, h4, h5, _⟩ := vd_ok hv
  obtain ⟨j, hj⟩ : ∃ j : Nat, r = (j : Int) + 2 := ⟨(r - 2).toNat, by omega⟩
  have e : lv T (msN T r + 1) = T.f.toNat ^ (j + 1) + 1 := by
    unfold lv msN
    rw [show r.toNat - 1 = j + 1 by omega, up_mul1 _ _ (by omega)]
    omega
  unfold roL
  rw [e]
  have := ab_pow1 T.f T.dp T.f.toNat (by omega) (by omega) (j + 1) (T.dp.toNat - 1) 1 (by omega) (by omega)
  simp only [List.length_cons]
  omega
end LW
end Go.Proofs.Ytfcbhbpillbapaa
