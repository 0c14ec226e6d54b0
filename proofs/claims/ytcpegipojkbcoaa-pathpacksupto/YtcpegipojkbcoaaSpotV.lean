/-
  Plain facts: what a node's place is, as the program reckons it and as the document does.
-/
import Derived.Test.YtcpegipojkbcoaaLaid
import Derived.Test.YtcpegipojkbcoaaEach
namespace Go.Proofs.Ytcpegipojkbcoaa
open Go.RowKit
set_option linter.unusedVariables false
set_option linter.unusedSimpArgs false
namespace LW
/-- The cells of a place. -/
def spC (r : Int) (a fr to : Nat) (la ro : Bool) : Array Value := #[.int .i64 r, .int .u64 a, .int .u64 fr, .int .u64 to, .bool la, .bool ro]
/-- It is the root. -/
def rtB (R : List Nat) (r : Int) : Bool := decide (r.toNat + 1 = R.length)
def laB (R : List Nat) (r : Int) (at_ : Nat) : Bool := decide (at_ + 1 = R.getD r.toNat 0)
def byN (T : Tr) (r : Int) : Nat := if r = 0 then T.lf.toNat else T.f.toNat
def frN (T : Tr) (R : List Nat) (r : Int) (at_ : Nat) : Nat := if rtB R r then 0 else at_ * byN T r
def toN (T : Tr) (n : Nat) (R : List Nat) (r : Int) (at_ : Nat) : Nat := if rtB R r then blw n R r else if laB R r at_ then blw n R r else at_ * byN T r + byN T r
/-- A place's numbers. -/
structure Sp where
  r : Int
  a : Nat
  fr : Nat
  to : Nat
  la : Bool
  ro : Bool
def spV (T : Tr) (n : Nat) (R : List Nat) (r : Int) (at_ : Nat) : Sp := if Has R r at_ then ⟨r, at_, frN T R r at_, toN T n R r at_, laB R r at_, rtB R r⟩ else ⟨0, 0, 0, 0, false, false⟩
def spA (s : Sp) : Array Value := spC s.r s.a s.fr s.to s.la s.ro
/-- One part of a row. -/
theorem tile {m b a : Nat} (hb : 0 < b) (ha : a < up m b) : a * b < m ∧ (a + 1 = up m b → a * b + min b (m - a * b) = m) ∧ (a + 1 ≠ up m b → a * b + min b (m - a * b) = a * b + b ∧ a * b + b ≤ m) := by
  have h1 := up_lt hb ha
  refine ⟨h1, fun h => ?_, fun h => ?_⟩
  · have := up_last hb h
    omega
  · have := up_full (n := m) (a := a) hb (by omega)
    omega
/-- What the program reckons is what the document says. -/
theorem spot_facts {T : Tr} {n : Nat} {R : List Nat} (hn : n < 18446744073709551616) (hv : vd T = 0) (hT : 0 ≤ T.lf) (hR : Rws T (lv T n) R) {r : Int} {at_ : Nat} (hh : Has R r at_) :
    at_ * eaN T r (R.getD r.toNat 0) (blw n R r) = frN T R r at_ ∧ frN T R r at_ ≤ blw n R r ∧ blw n R r < 18446744073709551616 ∧ frN T R r at_ + min (eaN T r (R.getD r.toNat 0) (blw n R r)) (blw n R r - frN T R r at_) = toN T n R r at_ ∧ toN T n R r at_ ≤ blw n R r ∧ (decide (0 < r) && ((R.getD r.toNat 0 : Nat) : Int) == 1) = rtB R r := by
  obtain ⟨v1, v2, v3, v4, _⟩ := vd_ok hv
  obtain ⟨h1, h2, h3⟩ := hh
  obtain ⟨i, rfl⟩ : ∃ i : Nat, r = (i : Int) := ⟨r.toNat, by omega⟩
  rw [Int.toNat_natCast] at *
  have hil : i < R.length := by omega
  cases i with
  | zero =>
    have hq : R.getD 0 0 = max 1 (up n T.lf.toNat) := hR.first
    have hro : rtB R ((0 : Nat) : Int) = false := by
      unfold rtB
      have := hR.two
      simp
      omega
    have hbl : blw n R ((0 : Nat) : Int) = n := by simp [blw]
    have hea : eaN T ((0 : Nat) : Int) (R.getD 0 0) n = T.lf.toNat := by simp [eaN]
    have hby : byN T ((0 : Nat) : Int) = T.lf.toNat := by simp [byN]
    rw [hbl, hea]
    unfold frN toN
    rw [hro, hby, hbl]
    simp only [Bool.false_eq_true, if_false]
    have hL : 0 < T.lf.toNat := by omega
    rw [hq] at h3
    by_cases hu : up n T.lf.toNat = 0
    · have hn0 : n = 0 := by
        rcases Nat.eq_zero_or_pos n with h | h
        · exact h
        · have := up_pos hL h; omega
      have ha0 : at_ = 0 := by omega
      subst hn0 ha0
      have hla : laB R ((0 : Nat) : Int) 0 = true := by
        unfold laB
        rw [Int.toNat_natCast, hq, hu]
        decide
      rw [hla]
      simp
    · have hup : max 1 (up n T.lf.toNat) = up n T.lf.toNat := by omega
      rw [hup] at h3 hq
      obtain ⟨t1, t2, t3⟩ := tile hL h3
      have hlaB : laB R ((0 : Nat) : Int) at_ = decide (at_ + 1 = up n T.lf.toNat) := by unfold laB; rw [Int.toNat_natCast, hq]
      rw [hlaB]
      by_cases hl : at_ + 1 = up n T.lf.toNat
      · rw [decide_eq_true hl, if_pos rfl]
        exact ⟨trivial, by omega, hn, t2 hl, Nat.le_refl _, by simp⟩
      · rw [decide_eq_false hl, if_neg (by simp)]
        exact ⟨trivial, by omega, hn, (t3 hl).1, (t3 hl).2, by simp⟩
  | succ i =>
    have hone := hR.one i hil
    have hnext := hR.next i hil
    have hbl : blw n R ((i + 1 : Nat) : Int) = R.getD i 0 := by
      unfold blw
      rw [if_neg (by omega)]
      simp
    have hbs := hR.small i (by omega)
    have hbp := hR.pos i (by omega)
    have hlaB : laB R ((i + 1 : Nat) : Int) at_ = decide (at_ + 1 = R.getD (i + 1) 0) := by unfold laB; rw [Int.toNat_natCast]
    have hroB : rtB R ((i + 1 : Nat) : Int) = decide (i + 1 + 1 = R.length) := by unfold rtB; rw [Int.toNat_natCast]
    rw [hbl]
    unfold frN toN
    rw [hlaB, hroB, hbl]
    have hpos : decide (0 < ((i + 1 : Nat) : Int)) = true := by simp
    rw [hpos]
    generalize R.getD i 0 = b0 at *
    generalize R.getD (i + 1) 0 = q at *
    by_cases hq1 : q = 1
    · have := hone.1 hq1
      have hea : eaN T ((i + 1 : Nat) : Int) q b0 = b0 := by
        unfold eaN
        rw [if_neg (by omega), if_pos ⟨by omega, hq1⟩]
      have ha0 : at_ = 0 := by omega
      subst ha0
      rw [hea, decide_eq_true (by omega : i + 1 + 1 = R.length), hq1]
      simp
      omega
    · have hnl : ¬ i + 1 + 1 = R.length := fun h => hq1 (hone.2 h)
      have hfc : ¬ (T.f = 0 ∨ ((i + 1 : Nat) : Int) = T.dp - 1) := by
        intro h
        apply hq1
        rw [hnext, nx, if_pos h]
      have hq : q = up b0 T.f.toNat := by rw [hnext, nx, if_neg hfc]
      have hea : eaN T ((i + 1 : Nat) : Int) q b0 = T.f.toNat := by
        unfold eaN
        rw [if_neg (by omega), if_neg (by omega)]
      have hby : byN T ((i + 1 : Nat) : Int) = T.f.toNat := by unfold byN; rw [if_neg (by omega)]
      have hF : 0 < T.f.toNat := by omega
      rw [hea, hby, decide_eq_false hnl]
      simp only [Bool.false_eq_true, if_false]
      have hq1' : (((q : Nat) : Int) == 1) = false := by simp; omega
      rw [hq] at h3
      obtain ⟨t1, t2, t3⟩ := tile hF h3
      rw [hq1', hq]
      by_cases hl : at_ + 1 = up b0 T.f.toNat
      · rw [decide_eq_true hl, if_pos rfl]
        exact ⟨trivial, by omega, hbs, t2 hl, Nat.le_refl _, rfl⟩
      · rw [decide_eq_false hl, if_neg (by simp)]
        exact ⟨trivial, by omega, hbs, (t3 hl).1, (t3 hl).2, rfl⟩
end LW
end Go.Proofs.Ytcpegipojkbcoaa
