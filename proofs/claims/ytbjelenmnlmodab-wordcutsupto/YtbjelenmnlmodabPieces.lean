/-
  Plain facts on pieces of a row of bytes (no Go in sight).
-/
import Derived.Test.YtbjelenmnlmodabWords
namespace Go.Proofs.Ytbjelenmnlmodab.Pcs
open Go Words

/-- How many pieces of n there are in len. -/
def pc (len n : Nat) : Nat := len / n + if len % n = 0 then 0 else 1
/-- The length of piece j. -/
def pl (len n j : Nat) : Nat := min n (len - j * n)
/-- Piece j. -/
def pie (zs : List Int) (n j : Nat) : List Int := (zs.drop (j * n)).take n
theorem pc_iff (len n j : Nat) (hn : 1 ≤ n) : j < pc len n ↔ j * n < len := by
  have h := Nat.div_add_mod len n
  have hr := Nat.mod_lt len (show 0 < n by omega)
  generalize hq : len / n = q at *
  generalize hrr : len % n = r at *
  unfold pc
  rw [hq, hrr]
  constructor
  · intro hj
    have h1 : j ≤ q := by split at hj <;> omega
    have h2 : j * n ≤ n * q := by rw [Nat.mul_comm]; exact Nat.mul_le_mul_left n h1
    by_cases e : r = 0
    · rw [if_pos e] at hj
      have h3 : (j + 1) * n ≤ q * n := Nat.mul_le_mul_right n (by omega)
      rw [Nat.add_mul, Nat.one_mul, Nat.mul_comm q] at h3
      omega
    · omega
  · intro hj
    rcases Nat.lt_or_ge j (q + if r = 0 then 0 else 1) with h' | h'
    · exact h'
    · exfalso
      by_cases e : r = 0
      · rw [if_pos e] at h'
        have h3 : q * n ≤ j * n := Nat.mul_le_mul_right n (by omega)
        rw [Nat.mul_comm q] at h3
        omega
      · rw [if_neg e] at h'
        have h3 : (q + 1) * n ≤ j * n := Nat.mul_le_mul_right n (by omega)
        rw [Nat.add_mul, Nat.one_mul, Nat.mul_comm q] at h3
        omega
theorem pc_le (len n : Nat) (hn : 1 ≤ n) : pc len n ≤ len := by
  rcases Nat.lt_or_ge len (pc len n) with h | h
  · exfalso
    have h1 := (pc_iff len n len hn).1 h
    have h2 : len * 1 ≤ len * n := Nat.mul_le_mul_left len hn
    omega
  · exact h
theorem pl_pos (len n j : Nat) (hn : 1 ≤ n) (h : j < pc len n) : 1 ≤ pl len n j := by
  have := (pc_iff len n j hn).1 h
  unfold pl; omega
theorem pl_fit (len n j : Nat) (hn : 1 ≤ n) (h : j < pc len n) : j * n + pl len n j ≤ len := by
  have := (pc_iff len n j hn).1 h
  unfold pl; omega
theorem pie_length (zs : List Int) (n j : Nat) : (pie zs n j).length = pl zs.length n j := by
  simp [pie, pl]
theorem pie_get (zs : List Int) (n j t : Nat) (h : t < pl zs.length n j) : (pie zs n j).getD t 0 = zs.getD (j * n + t) 0 := by
  have h1 : t < n := by unfold pl at h; omega
  simp [pie, List.getD_eq_getElem?_getD, List.getElem?_drop, h1]
theorem pie_byt {zs : List Int} (h : Byt zs) (n j : Nat) : Byt (pie zs n j) := (h.drop _).take _
/-- Where the next piece begins. -/
theorem next (len n j : Nat) (hn : 1 ≤ n) (h : j < pc len n) : min ((j + 1) * n) len = j * n + pl len n j := by
  have := (pc_iff len n j hn).1 h
  rw [Nat.add_mul, Nat.one_mul]
  unfold pl; omega
theorem next_lt (len n j : Nat) (hn : 1 ≤ n) (h : j + 1 < pc len n) : (j + 1) * n = j * n + pl len n j := by
  have h1 := (pc_iff len n (j + 1) hn).1 h
  have h2 := next len n j hn (by omega)
  omega
end Go.Proofs.Ytbjelenmnlmodab.Pcs
