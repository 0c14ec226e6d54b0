/-
  Plain facts on how the places of a row lie side by side, and on a node's parent.
-/
import Derived.Test.YtcpegipojkbcoaaParen
namespace Go.Proofs.Ytcpegipojkbcoaa
open Go.RowKit
set_option linter.unusedVariables false
set_option linter.unusedSimpArgs false
namespace LW
theorem natCast_succ (i : Nat) : ((i + 1 : Nat) : Int) = (i : Int) + 1 := by omega
/-- A node's parent, and that the node lies in it. -/
theorem par_facts {T : Tr} {n : Nat} {R : List Nat} (hv : vd T = 0) (hR : Rws T (lv T n) R) {i at_ : Nat} (hil : i + 1 < R.length) (h3 : at_ < R.getD i 0) :
    ∃ p, p ≤ at_ ∧ ((nx T.f T.dp ((i : Int) + 1) (R.getD i 0) = 1 ∧ p = 0) ∨ (nx T.f T.dp ((i : Int) + 1) (R.getD i 0) ≠ 1 ∧ p = at_ / T.f.toNat)) ∧ Has R ((i : Int) + 1) p ∧ frN T R ((i : Int) + 1) p ≤ at_ ∧ at_ < toN T n R ((i : Int) + 1) p := by
  obtain ⟨v1, v2, v3, v4, _⟩ := vd_ok hv
  have hone := hR.one i hil
  have hnext := hR.next i hil
  rw [natCast_succ] at hnext
  have hr : ((i : Int) + 1).toNat = i + 1 := by omega
  have hbl : blw n R ((i : Int) + 1) = R.getD i 0 := by
    unfold blw
    rw [if_neg (by omega), hr]
    rfl
  have hbp := hR.pos i (by omega)
  have hHas : ∀ p, p < R.getD (i + 1) 0 → Has R ((i : Int) + 1) p := fun p hp => ⟨by omega, by omega, by rw [hr]; exact hp⟩
  have hroB : rtB R ((i : Int) + 1) = decide (i + 1 + 1 = R.length) := by unfold rtB; rw [hr]
  have hlaB : ∀ p, laB R ((i : Int) + 1) p = decide (p + 1 = R.getD (i + 1) 0) := fun p => by unfold laB; rw [hr]
  by_cases hq1 : R.getD (i + 1) 0 = 1
  · have hl := hone.1 hq1
    refine ⟨0, Nat.zero_le _, .inl ⟨by rw [← hnext]; exact hq1, rfl⟩, hHas 0 (by omega), ?_, ?_⟩
    · unfold frN
      rw [hroB, decide_eq_true (by omega : i + 1 + 1 = R.length)]
      simp
    · unfold toN
      rw [hroB, decide_eq_true (by omega : i + 1 + 1 = R.length), if_pos rfl, hbl]
      exact h3
  · have hnl : ¬ i + 1 + 1 = R.length := fun h => hq1 (hone.2 (by omega))
    have hfc : ¬ (T.f = 0 ∨ (i : Int) + 1 = T.dp - 1) := by
      intro h
      apply hq1
      rw [hnext, nx, if_pos h]
    have hq : R.getD (i + 1) 0 = up (R.getD i 0) T.f.toNat := by rw [hnext, nx, if_neg hfc]
    have hF : 0 < T.f.toNat := by omega
    have hby : byN T ((i : Int) + 1) = T.f.toNat := by unfold byN; rw [if_neg (by omega)]
    have hp : at_ / T.f.toNat < up (R.getD i 0) T.f.toNat := by
      rcases Nat.lt_or_ge (at_ / T.f.toNat) (up (R.getD i 0) T.f.toNat) with h | h
      · exact h
      · exfalso
        have h4 : up (R.getD i 0) T.f.toNat * T.f.toNat ≤ at_ / T.f.toNat * T.f.toNat := Nat.mul_le_mul_right _ h
        have h5 := Nat.div_mul_le_self at_ T.f.toNat
        have hu := up_pos hF hbp
        obtain ⟨u, hu'⟩ : ∃ u, up (R.getD i 0) T.f.toNat = u + 1 := ⟨up (R.getD i 0) T.f.toNat - 1, by omega⟩
        have h6 := up_last (n := R.getD i 0) (a := u) hF hu'.symm
        rw [hu', Nat.succ_mul] at h4
        omega
    have hdm := Nat.div_add_mod' at_ T.f.toNat
    have hmm := Nat.mod_lt at_ hF
    refine ⟨at_ / T.f.toNat, Nat.div_le_self _ _, .inr ⟨by rw [← hnext]; exact hq1, rfl⟩, hHas _ (by rw [hq]; exact hp), ?_, ?_⟩
    · unfold frN
      rw [hroB, decide_eq_false hnl, if_neg (by simp), hby]
      exact Nat.div_mul_le_self _ _
    · unfold toN
      rw [hroB, decide_eq_false hnl, if_neg (by simp), hlaB, hbl, hby]
      split
      · exact h3
      · omega
/-- How the places of a row lie. -/
theorem tile_facts {T : Tr} {n : Nat} {R : List Nat} (hn : n < 18446744073709551616) (hv : vd T = 0) (hT : 0 ≤ T.lf) (hR : Rws T (lv T n) R) {i at_ : Nat} (hil : i < R.length) (h3 : at_ < R.getD i 0) :
    (at_ = 0 → frN T R (i : Int) at_ = 0) ∧ (laB R (i : Int) at_ = true → toN T n R (i : Int) at_ = blw n R (i : Int)) ∧ frN T R (i : Int) at_ ≤ toN T n R (i : Int) at_ ∧ (0 < n → frN T R (i : Int) at_ < toN T n R (i : Int) at_) ∧
    (laB R (i : Int) at_ = false → at_ + 1 < R.getD i 0 ∧ frN T R (i : Int) (at_ + 1) = toN T n R (i : Int) at_ ∧ toN T n R (i : Int) at_ = frN T R (i : Int) at_ + byN T (i : Int) ∧ 0 < byN T (i : Int)) := by
  obtain ⟨v1, v2, v3, v4, _⟩ := vd_ok hv
  have hh : Has R (i : Int) at_ := ⟨by omega, by omega, by rw [Int.toNat_natCast]; exact h3⟩
  obtain ⟨f1, f2, f3, f4, f5, f6⟩ := spot_facts hn hv hT hR hh
  have hlaB : ∀ p, laB R (i : Int) p = decide (p + 1 = R.getD i 0) := fun p => by unfold laB; rw [Int.toNat_natCast]
  have hroB : rtB R (i : Int) = decide (i + 1 = R.length) := by unfold rtB; rw [Int.toNat_natCast]
  have hble : 0 < n → 0 < blw n R (i : Int) := by
    intro h
    unfold blw
    split
    · exact h
    · rw [Int.toNat_natCast]; exact hR.pos _ (by omega)
  have hroot : rtB R (i : Int) = true → R.getD i 0 = 1 := by
    intro h
    rw [hroB, decide_eq_true_eq] at h
    have htwo := hR.two
    cases i with
    | zero => omega
    | succ i => exact (hR.one i hil).2 (by omega)
  have hea : 0 < n → rtB R (i : Int) = false → 0 < eaN T (i : Int) (R.getD (i : Int).toNat 0) (blw n R (i : Int)) := by
    intro h0 h
    unfold eaN
    split
    · omega
    · rename_i hi0
      split
      · exact hble h0
      · rename_i hq1
        rw [Int.toNat_natCast] at hq1
        cases i with
        | zero => exact absurd rfl hi0
        | succ i =>
          have hnext := hR.next i hil
          rcases v2 with hf | hf
          · exfalso
            apply hq1
            refine ⟨by omega, ?_⟩
            rw [hnext, nx, if_pos (.inl hf)]
          · omega
  refine ⟨?_, ?_, ?_, ?_, ?_⟩
  · rintro rfl
    unfold frN
    split <;> simp
  · intro h
    unfold toN
    rw [h]
    split <;> simp
  · omega
  · intro h0
    have hb0 := hble h0
    cases hr : rtB R (i : Int) with
    | true =>
      unfold frN toN
      rw [hr]
      simpa using hb0
    | false =>
      have he := hea h0 hr
      have hlt : frN T R (i : Int) at_ < blw n R (i : Int) := by
        rcases Nat.lt_or_ge (frN T R (i : Int) at_) (blw n R (i : Int)) with h | h
        · exact h
        · exfalso
          cases i with
          | zero =>
            have hq : R.getD 0 0 = max 1 (up n T.lf.toNat) := hR.first
            have hu := up_pos (n := n) (b := T.lf.toNat) (by omega) h0
            rw [hq, show max 1 (up n T.lf.toNat) = up n T.lf.toNat by omega] at h3
            have := up_lt (n := n) (b := T.lf.toNat) (by omega) h3
            unfold frN at h
            rw [hr] at h
            simp [byN, blw] at h
            omega
          | succ i =>
            have hnext := hR.next i hil
            have hone := hR.one i hil
            have hnl : ¬ i + 2 = R.length := by
              intro h'
              rw [hroB, decide_eq_false_iff_not] at hr
              omega
            have hq1 : ¬ R.getD (i + 1) 0 = 1 := fun h' => hnl (hone.1 h')
            have hfc : ¬ (T.f = 0 ∨ ((i + 1 : Nat) : Int) = T.dp - 1) := by
              intro h'
              apply hq1
              rw [hnext, nx, if_pos h']
            rw [hnext, nx, if_neg hfc] at h3
            have := up_lt (n := R.getD i 0) (b := T.f.toNat) (by omega) h3
            have e1 : frN T R ((i + 1 : Nat) : Int) at_ = at_ * T.f.toNat := by unfold frN byN; rw [hr, if_neg (by simp), if_neg (by omega)]
            have e2 : blw n R ((i + 1 : Nat) : Int) = R.getD i 0 := by unfold blw; rw [if_neg (by omega), Int.toNat_natCast]; rfl
            omega
      omega
  · intro h
    have hl := h
    rw [hlaB, decide_eq_false_iff_not] at hl
    have hr : rtB R (i : Int) = false := by
      cases hr : rtB R (i : Int) with
      | false => rfl
      | true => have := hroot hr; omega
    refine ⟨by omega, ?_, ?_⟩
    · unfold frN toN
      rw [hr, h]
      simp
      rw [Nat.succ_mul]
    · unfold frN toN
      rw [hr, h]
      simp
      unfold byN
      split
      · omega
      · rename_i hi0
        cases i with
        | zero => exact absurd rfl hi0
        | succ i =>
          have hnext := hR.next i hil
          rcases v2 with hf | hf
          · exfalso
            rw [nx, if_pos (.inl hf)] at hnext
            omega
          · omega
end LW
end Go.Proofs.Ytcpegipojkbcoaa
