/-
  More plain facts on six bits a letter: the machine bit by bit within a byte, within a letter.
-/
import Derived.Test.YtbjelenmnlmodabB64
namespace Go.Proofs.Ytbjelenmnlmodab.B64
open Go Words Txt

/-- What holds between two bits, N of which make a number. -/
structure St.Ok (N : Nat) (s : St) : Prop where
  out : ∀ x ∈ s.out, 0 ≤ x ∧ x < 2 ^ N
  have_ : s.have_ < N
  lo : 0 ≤ s.worth
  hi : s.worth < 2 ^ s.have_
theorem ok_bit {N : Nat} {s : St} (h : s.Ok N) (b : Int) (h0 : 0 ≤ b) (h1 : b < 2) : (s.bit N b).Ok N := by
  unfold St.bit
  have hp : (2 : Int) ^ (s.have_ + 1) = 2 * 2 ^ s.have_ := by rw [Int.pow_succ]; omega
  have h2 := h.lo
  have h3 := h.hi
  split
  · rename_i hN
    refine ⟨fun x hx => ?_, by simp only; omega, by simp, by simp⟩
    rcases List.mem_append.1 hx with hx | hx
    · exact h.out x hx
    · simp at hx
      rw [← hN, hp]
      omega
  · have := h.have_
    exact ⟨h.out, by simp only; omega, by simp only; omega, by simp only; rw [hp]; omega⟩
theorem ok6 {s : St} (h : s.Good6) : s.Ok 6 := by
  obtain ⟨o, f, w⟩ := s
  obtain ⟨ho, hf⟩ := h
  simp only at ho hf
  rcases hf with ⟨rfl, rfl⟩ | ⟨rfl, a, b⟩ | ⟨rfl, a, b⟩ <;> exact ⟨ho, by simp, by simp only; omega, by simp only; omega⟩
theorem ok8 {s : St} (h : s.Good8) : s.Ok 8 := by
  obtain ⟨o, f, w⟩ := s
  obtain ⟨ho, hf⟩ := h
  simp only at ho hf
  rcases hf with ⟨rfl, rfl⟩ | ⟨rfl, a, b⟩ | ⟨rfl, a, b⟩ | ⟨rfl, a, b⟩ <;> exact ⟨ho, by simp, by simp only; omega, by simp only; omega⟩

/-- Of a byte's bits q are still to come. -/
def T (z : Int) (s : St) (q : Nat) : St := ((b8 z).take (8 - q)).foldl (St.bit 6) s
theorem T_8 (z : Int) (s : St) : T z s 8 = s := rfl
theorem T_0 (z : Int) (s : St) : T z s 0 = s.byte z := rfl
theorem T_succ (z : Int) (s : St) (p : Nat) (h : p < 8) : T z s p = (T z s (p + 1)).bit 6 (z / 2 ^ p % 2) := by
  have : p = 0 ∨ p = 1 ∨ p = 2 ∨ p = 3 ∨ p = 4 ∨ p = 5 ∨ p = 6 ∨ p = 7 := by omega
  rcases this with rfl | rfl | rfl | rfl | rfl | rfl | rfl | rfl <;> simp [T, b8]
theorem T_ok (z : Int) {s : St} (h : s.Ok 6) (q : Nat) (hq : q ≤ 8) : (T z s q).Ok 6 := by
  have : ∀ d, d ≤ 8 → (T z s (8 - d)).Ok 6 := by
    intro d
    induction d with
    | zero => intro _; exact h
    | succ d ih =>
      intro hd
      rw [T_succ z s (8 - (d + 1)) (by omega), show 8 - (d + 1) + 1 = 8 - d by omega]
      exact ok_bit (ih (by omega)) _ (by omega) (by omega)
  have := this (8 - q) (by omega)
  rwa [show 8 - (8 - q) = q by omega] at this
/-- Of a letter's bits q are still to come. -/
def T6 (z : Int) (s : St) (q : Nat) : St := ((b6 z).take (6 - q)).foldl (St.bit 8) s
theorem T6_6 (z : Int) (s : St) : T6 z s 6 = s := rfl
theorem T6_0 (z : Int) (s : St) : T6 z s 0 = s.lett z := rfl
theorem T6_succ (z : Int) (s : St) (p : Nat) (h : p < 6) : T6 z s p = (T6 z s (p + 1)).bit 8 (z / 2 ^ p % 2) := by
  have : p = 0 ∨ p = 1 ∨ p = 2 ∨ p = 3 ∨ p = 4 ∨ p = 5 := by omega
  rcases this with rfl | rfl | rfl | rfl | rfl | rfl <;> simp [T6, b6]
theorem T6_ok (z : Int) {s : St} (h : s.Ok 8) (q : Nat) (hq : q ≤ 6) : (T6 z s q).Ok 8 := by
  have : ∀ d, d ≤ 6 → (T6 z s (6 - d)).Ok 8 := by
    intro d
    induction d with
    | zero => intro _; exact h
    | succ d ih =>
      intro hd
      rw [T6_succ z s (6 - (d + 1)) (by omega), show 6 - (d + 1) + 1 = 6 - d by omega]
      exact ok_bit (ih (by omega)) _ (by omega) (by omega)
  have := this (6 - q) (by omega)
  rwa [show 6 - (6 - q) = q by omega] at this
theorem pow8 (n : Nat) (h : n < 8) : (2 : Int) ^ n ≤ 128 := by
  have : n = 0 ∨ n = 1 ∨ n = 2 ∨ n = 3 ∨ n = 4 ∨ n = 5 ∨ n = 6 ∨ n = 7 := by omega
  rcases this with rfl | rfl | rfl | rfl | rfl | rfl | rfl | rfl <;> decide
theorem out_len (N : Nat) (s : St) (b : Int) : (s.bit N b).out.length ≤ s.out.length + 1 := by
  unfold St.bit; split <;> simp
end Go.Proofs.Ytbjelenmnlmodab.B64
