/-
  Plain facts on the way from a leaf up to the root, and on how many nodes lie beside it.
-/
import Derived.Test.YtcpegipojkbcoaaTileL
namespace Go.Proofs.Ytcpegipojkbcoaa
open Go.RowKit
set_option linter.unusedVariables false
set_option linter.unusedSimpArgs false
namespace LW
/-- The places on the way up. -/
def aw (T : Tr) (R : List Nat) (lf : Nat) : Nat → Nat
  | 0 => lf
  | i + 1 => if R.getD (i + 1) 0 = 1 then 0 else aw T R lf i / T.f.toNat
theorem aw_lt {T : Tr} {n : Nat} {R : List Nat} (hv : vd T = 0) (hR : Rws T (lv T n) R) {lf : Nat} (h : lf < R.getD 0 0) : ∀ i, i < R.length → aw T R lf i < R.getD i 0
  | 0, _ => h
  | i + 1, hi => by
    have ih := aw_lt hv hR h i (by omega)
    obtain ⟨p, hp, hc, hh, _⟩ := par_facts (n := n) hv hR (i := i) hi ih
    have hnx := hR.next i hi
    rw [natCast_succ] at hnx
    have e : aw T R lf (i + 1) = p := by
      rw [aw, hnx]
      rcases hc with ⟨h1, h2⟩ | ⟨h1, h2⟩
      · rw [if_pos h1, h2]
      · rw [if_neg h1, h2]
    rw [e]
    have := hh.2.2
    rwa [show ((i : Int) + 1).toNat = i + 1 by omega] at this
/-- A node of the way lies in the next one of it. -/
theorem aw_in {T : Tr} {n : Nat} {R : List Nat} (hv : vd T = 0) (hR : Rws T (lv T n) R) {lf : Nat} (h : lf < R.getD 0 0) (i : Nat) (hi : i + 1 < R.length) :
    frN T R ((i + 1 : Nat) : Int) (aw T R lf (i + 1)) ≤ aw T R lf i ∧ aw T R lf i < toN T n R ((i + 1 : Nat) : Int) (aw T R lf (i + 1)) := by
  have ih := aw_lt hv hR h i (by omega)
  obtain ⟨p, hp, hc, hh, h1, h2⟩ := par_facts (n := n) hv hR (i := i) hi ih
  have hnx := hR.next i hi
  rw [natCast_succ] at hnx
  have e : aw T R lf (i + 1) = p := by
    rw [aw, hnx]
    rcases hc with ⟨h1, h2⟩ | ⟨h1, h2⟩
    · rw [if_pos h1, h2]
    · rw [if_neg h1, h2]
  rw [e, natCast_succ]
  exact ⟨h1, h2⟩
theorem aw_has {T : Tr} {n : Nat} {R : List Nat} (hv : vd T = 0) (hR : Rws T (lv T n) R) {lf : Nat} (h : lf < R.getD 0 0) (i : Nat) (hi : i < R.length) : Has R (i : Int) (aw T R lf i) :=
  ⟨by omega, by omega, by rw [Int.toNat_natCast]; exact aw_lt hv hR h i hi⟩
/-- Where the i-th node of the way begins and ends in the row below it. -/
def wF (T : Tr) (R : List Nat) (lf i : Nat) : Nat := frN T R (i : Int) (aw T R lf i)
def wT (T : Tr) (n : Nat) (R : List Nat) (lf i : Nat) : Nat := toN T n R (i : Int) (aw T R lf i)
/-- The cells of the i-th node of the way. -/
def waS (T : Tr) (n : Nat) (R : List Nat) (lf i : Nat) : Array Value := spC (i : Int) (aw T R lf i) (wF T R lf i) (wT T n R lf i) (laB R (i : Int) (aw T R lf i)) (rtB R (i : Int))
/-- The cells of the way's first k nodes. -/
def waC (T : Tr) (n : Nat) (R : List Nat) (lf : Nat) : Nat → List Value
  | 0 => []
  | k + 1 => waC T n R lf k ++ (waS T n R lf k).toList
theorem waS_size (T : Tr) (n : Nat) (R : List Nat) (lf i : Nat) : (waS T n R lf i).toList.length = 6 := rfl
theorem waC_len (T : Tr) (n : Nat) (R : List Nat) (lf : Nat) : ∀ k, (waC T n R lf k).length = k * 6
  | 0 => rfl
  | k + 1 => by rw [waC, List.length_append, waC_len T n R lf k, waS_size]; omega
theorem waC_get (T : Tr) (n : Nat) (R : List Nat) (lf : Nat) : ∀ k i c, i < k → c < 6 → (waC T n R lf k)[i * 6 + c]? = (waS T n R lf i).toList[c]?
  | 0, _, _, h, _ => by omega
  | k + 1, i, c, h, hc => by
    rw [waC]
    have hl := waC_len T n R lf k
    rcases Nat.lt_or_ge i k with h1 | h1
    · rw [List.getElem?_append_left (by omega)]
      exact waC_get T n R lf k i c h1 hc
    · obtain rfl : i = k := by omega
      rw [List.getElem?_append_right (by omega), hl]
      congr 1
      omega
/-- How many digests the first k steps of a path have. -/
def szN (T : Tr) (n : Nat) (R : List Nat) (lf : Nat) : Nat → Nat
  | 0 => 0
  | k + 1 => szN T n R lf k + (wT T n R lf (k + 1) - wF T R lf (k + 1) - 1)
theorem wT_lt {T : Tr} {n : Nat} {R : List Nat} (hn : n < 18446744073709551616) (hv : vd T = 0) (hT : 0 ≤ T.lf) (hR : Rws T (lv T n) R) {lf : Nat} (h : lf < R.getD 0 0) (i : Nat) (hi : i < R.length) : wF T R lf i ≤ wT T n R lf i ∧ wT T n R lf i < 18446744073709551616 := by
  obtain ⟨f1, f2, f3, f4, f5, f6⟩ := spot_facts hn hv hT hR (aw_has hv hR h i hi)
  unfold wF wT
  omega
/-- What way tells of errors: of a leaf that there is not, too. -/
def waE (T : Tr) (n lf : Nat) : Int := if lvE T n = 0 then (if lf < (roL T n).getD 0 0 then 0 else 6) else lvE T n
end LW
end Go.Proofs.Ytcpegipojkbcoaa
