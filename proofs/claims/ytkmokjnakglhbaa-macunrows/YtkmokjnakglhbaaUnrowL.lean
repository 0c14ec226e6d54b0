/-
  Plain facts on a row of parts: where each part's number begins, which parts are whole, what comes of any bytes (no Go in sight).
-/
import Derived.Test.YtkmokjnakglhbaaWords
namespace Go.Proofs.Ytkmokjnakglhbaa
namespace LW
open Words
/-- The number that eight bytes tell from a place on. -/
def nm (zs : List Int) (p : Nat) : Nat := (le ((zs.drop p).take 8)).toNat
/-- Where part j's number begins, if all ahead are whole. -/
def pos (zs : List Int) : Nat → Nat
  | 0 => 0
  | j + 1 => pos zs j + 8 + nm zs (pos zs j)
/-- How long part j is. -/
def pn (zs : List Int) (j : Nat) : Nat := nm zs (pos zs j)
theorem pos_succ (zs : List Int) (j : Nat) : pos zs (j + 1) = pos zs j + 8 + pn zs j := rfl
/-- The first j parts are whole. -/
def Gd (zs : List Int) (j : Nat) : Prop := ∀ i, i < j → pos zs (i + 1) ≤ zs.length
/-- What comes of it behind j whole parts: the error's number and the place. -/
def Out (zs : List Int) (j e a : Nat) : Prop :=
  (e = 0 ∧ a = 0 ∧ pos zs j = zs.length) ∨ (e = 4 ∧ ((a = pos zs j ∧ pos zs j < zs.length ∧ zs.length < pos zs j + 8) ∨ (a = pos zs j + 8 ∧ pos zs j + 8 ≤ zs.length ∧ zs.length < pos zs (j + 1))))
theorem Gd.zero (zs : List Int) : Gd zs 0 := fun i h => absurd h (Nat.not_lt_zero i)
theorem Gd.succ {zs : List Int} {j : Nat} (h : Gd zs j) (h1 : pos zs (j + 1) ≤ zs.length) : Gd zs (j + 1) := fun i hi => by
  by_cases e : i = j
  · subst e; exact h1
  · exact h i (by omega)
theorem Gd.le {zs : List Int} {j : Nat} (h : Gd zs j) : pos zs j ≤ zs.length := by
  cases j with
  | zero => exact Nat.zero_le _
  | succ j => exact h j (by omega)
theorem Gd.mono {zs : List Int} {i j : Nat} (h : Gd zs j) (hij : i ≤ j) : Gd zs i := fun k hk => h k (by omega)
theorem pos_ge (zs : List Int) (j : Nat) : 8 * j ≤ pos zs j := by
  induction j with
  | zero => exact Nat.zero_le _
  | succ j ih => rw [pos_succ]; omega
theorem Out.stop {zs : List Int} {j e a : Nat} (h : Out zs j e a) : ¬ pos zs (j + 1) ≤ zs.length := by
  have hs := pos_succ zs j
  rcases h with ⟨_, _, h⟩ | ⟨_, ⟨_, h1, h2⟩ | ⟨_, h1, h2⟩⟩ <;> omega
theorem out_one {zs : List Int} {i j e f a b : Nat} (h1 : Gd zs i) (h2 : Out zs i e a) (h3 : Gd zs j) (h4 : Out zs j f b) : i = j ∧ e = f ∧ a = b := by
  obtain rfl : i = j := by
    rcases Nat.lt_trichotomy i j with h | h | h
    · exact absurd (h3 i h) h2.stop
    · exact h
    · exact absurd (h1 j h) h4.stop
  have hs := pos_succ zs i
  refine ⟨rfl, ?_⟩
  rcases h2 with ⟨h5, h6, h7⟩ | ⟨h5, ⟨h6, h7, h8⟩ | ⟨h6, h7, h8⟩⟩ <;> rcases h4 with ⟨k5, k6, k7⟩ | ⟨k5, ⟨k6, k7, k8⟩ | ⟨k6, k7, k8⟩⟩ <;> omega
/-- What Unrow tells: the error's number, the place, how many parts. -/
def Res (zs : List Int) (e a c : Nat) : Prop :=
  (16777216 < zs.length ∧ e = 2 ∧ a = 0 ∧ c = 0) ∨ (zs.length ≤ 16777216 ∧ ∃ j, Gd zs j ∧ Out zs j e a ∧ c = if e = 0 then j else 0)
theorem Res.one {zs : List Int} {e a c f b d : Nat} (h : Res zs e a c) (k : Res zs f b d) : e = f ∧ a = b ∧ c = d := by
  rcases h with ⟨h1, h2, h3, h4⟩ | ⟨h1, j, h2, h3, h4⟩ <;> rcases k with ⟨k1, k2, k3, k4⟩ | ⟨k1, i, k2, k3, k4⟩
  · omega
  · omega
  · omega
  · obtain ⟨rfl, rfl, rfl⟩ := out_one h2 h3 k2 k3
    exact ⟨rfl, rfl, h4.trans k4.symm⟩
theorem Res.gd {zs : List Int} {e a c : Nat} (h : Res zs e a c) : Gd zs c ∧ 8 * c ≤ 16777216 := by
  rcases h with ⟨h1, h2, h3, rfl⟩ | ⟨h1, j, h2, h3, rfl⟩
  · exact ⟨Gd.zero _, by omega⟩
  · have hp := pos_ge zs j
    have hl := h2.le
    split
    · exact ⟨h2, by omega⟩
    · exact ⟨Gd.zero _, by omega⟩
/-- Part j. -/
def pie (zs : List Int) (j : Nat) : List Int := (zs.drop (pos zs j + 8)).take (pn zs j)
theorem pie_length {zs : List Int} {c j : Nat} (h : Gd zs c) (hj : j < c) : (pie zs j).length = pn zs j := by
  have h1 := h j hj
  rw [pos_succ] at h1
  simp [pie]; omega
theorem pie_get {zs : List Int} {j t : Nat} (ht : t < pn zs j) : (pie zs j).getD t 0 = zs.getD (pos zs j + 8 + t) 0 := by
  simp [pie, List.getD_eq_getElem?_getD, List.getElem?_drop, ht]
theorem pie_byt {zs : List Int} (h : Byt zs) (j : Nat) : Byt (pie zs j) := (h.drop _).take _
theorem nm_le (zs : List Int) (p : Nat) (h : Byt zs) : (nm zs p : Int) = le ((zs.drop p).take 8) := by
  have := le_bd ((h.drop p).take 8)
  unfold nm; omega
theorem nm_bd (zs : List Int) (p : Nat) (h : Byt zs) : nm zs p < 18446744073709551616 := by
  have h1 := le_small ((zs.drop p).take 8) 0 ((h.drop p).take 8) (by simp; omega)
  rw [List.drop_zero] at h1
  have := nm_le zs p h
  omega
/-- Reading a number where eight bytes are left. -/
theorem ld_nm (zs : List Int) (p : Nat) (h : Byt zs) (hp : p + 8 ≤ zs.length) : ld zs (p : Int) 8 = ((nm zs p : Int), 0) := by
  rw [ld_ok zs p 8 (by omega) (by omega), nm_le zs p h, Int.toNat_natCast]
theorem ld_none (zs : List Int) (p : Nat) (hp : zs.length < p + 8) : ld zs (p : Int) 8 = (0, 3) := ld_short zs p 8 (by omega) (by omega)
/-- Reading a number at the beginning of what is left. -/
theorem ld_rest (zs : List Int) (p : Nat) (h : Byt zs) (hp : p + 8 ≤ zs.length) : ld (zs.drop p) 0 8 = ((nm zs p : Int), 0) := by
  rw [ld_ok (zs.drop p) 0 8 (by omega) (by rw [List.length_drop]; omega), nm_le zs p h]; simp
theorem ld_rest_none (zs : List Int) (p : Nat) (hp : zs.length < p + 8) : ld (zs.drop p) 0 8 = (0, 3) := ld_short (zs.drop p) 0 8 (by omega) (by rw [List.length_drop]; omega)
end LW
end Go.Proofs.Ytkmokjnakglhbaa
