/-
  Plain facts on words laid down in bytes with the lowest byte first (no Go in sight).
-/
import Derived.Laws.BitsAllLaws
import Derived.Laws.Entries
namespace Go.Proofs.YtkgemkfajkcgcaaDoor.Words
open Go

/-- Every number of the list is a byte's. -/
def Byt (l : List Int) : Prop := ∀ z ∈ l, 0 ≤ z ∧ z < 256
/-- The word that a list of bytes is, the lowest first. -/
def le : List Int → Int
  | [] => 0
  | z :: l => z + 256 * le l
/-- A word's first n bytes, the lowest first. -/
def un (w : Int) : Nat → List Int
  | 0 => []
  | n + 1 => w % 256 :: un (w / 256) n

theorem Byt.nil : Byt [] := fun _ h => by cases h
theorem Byt.cons {z : Int} {l : List Int} (h : Byt (z :: l)) : (0 ≤ z ∧ z < 256) ∧ Byt l := ⟨h z (by simp), fun x hx => h x (by simp [hx])⟩
theorem Byt.mk {z : Int} {l : List Int} (h0 : 0 ≤ z) (h1 : z < 256) (h : Byt l) : Byt (z :: l) := fun x hx => by
  rcases List.mem_cons.1 hx with rfl | hx
  · exact ⟨h0, h1⟩
  · exact h x hx
theorem Byt.take {l : List Int} (h : Byt l) (n : Nat) : Byt (l.take n) := fun x hx => h x (List.mem_of_mem_take hx)
theorem Byt.drop {l : List Int} (h : Byt l) (n : Nat) : Byt (l.drop n) := fun x hx => h x (List.mem_of_mem_drop hx)
theorem Byt.append {l m : List Int} (h : Byt l) (h' : Byt m) : Byt (l ++ m) := fun x hx => by
  rcases List.mem_append.1 hx with hx | hx
  · exact h x hx
  · exact h' x hx
theorem Byt.get {l : List Int} (h : Byt l) (i : Nat) : 0 ≤ l.getD i 0 ∧ l.getD i 0 < 256 := by
  rw [List.getD_eq_getElem?_getD]
  by_cases hi : i < l.length
  · rw [List.getElem?_eq_getElem hi]; exact h _ (List.getElem_mem hi)
  · rw [List.getElem?_eq_none (by omega)]; simp
theorem Byt.un (w : Int) (n : Nat) : Byt (un w n) := by
  induction n generalizing w with
  | zero => exact Byt.nil
  | succ n ih => exact Byt.mk (by omega) (by omega) (ih _)
theorem un_length (w : Int) (n : Nat) : (un w n).length = n := by
  induction n generalizing w with
  | zero => rfl
  | succ n ih => simp [un, ih]

theorem le_bd {l : List Int} (h : Byt l) : 0 ≤ le l ∧ le l < 256 ^ l.length := by
  induction l with
  | nil => simp [le]
  | cons z l ih =>
    obtain ⟨hz, hl⟩ := h.cons
    have := ih hl
    simp only [le, List.length_cons, Int.pow_succ]
    omega
theorem le_snoc (l : List Int) (z : Int) : le (l ++ [z]) = le l + z * 256 ^ l.length := by
  induction l with
  | nil => simp [le]
  | cons x l ih =>
    simp only [le, List.cons_append, List.length_cons, ih, Int.pow_succ]
    grind
theorem le_un (w : Int) (n : Nat) (h0 : 0 ≤ w) (h1 : w < 256 ^ n) : le (un w n) = w := by
  induction n generalizing w with
  | zero => simp at h1; simp [un, le]; omega
  | succ n ih =>
    simp only [un, le]
    rw [ih (w / 256) (by omega) (by rw [Int.pow_succ] at h1; omega)]
    omega
theorem un_snoc (w : Int) (n : Nat) : un w (n + 1) = un w n ++ [w / 256 ^ n % 256] := by
  induction n generalizing w with
  | zero => simp [un]
  | succ n ih =>
    rw [un, ih (w / 256), un, Int.ediv_ediv_of_nonneg (by decide)]
    simp [Int.pow_succ, Int.mul_comm]
theorem un_getD (w : Int) (n i : Nat) (h : i < n) : (un w n).getD i 0 = w / 256 ^ i % 256 := by
  induction n generalizing w i with
  | zero => omega
  | succ n ih =>
    cases i with
    | zero => simp [un]
    | succ i =>
      have := ih (w / 256) i (by omega)
      simp only [un, List.getD_cons_succ]
      rw [this, Int.ediv_ediv_of_nonneg (by decide), Int.pow_succ, Int.mul_comm]

/-- What a Load answers: the word and the error's number. -/
def ld (zs : List Int) (at_ : Int) (n : Nat) : Int × Int :=
  if at_ < 0 then (0, 1) else if (zs.length : Int) - at_ < n then (0, 3) else (le ((zs.drop at_.toNat).take n), 0)

theorem ld_neg (zs : List Int) (a : Int) (n : Nat) (h : a < 0) : ld zs a n = (0, 1) := by simp [ld, h]
theorem ld_short (zs : List Int) (a : Int) (n : Nat) (h : 0 ≤ a) (h2 : (zs.length : Int) - a < n) : ld zs a n = (0, 3) := by
  rw [ld, if_neg (by omega), if_pos h2]
theorem ld_ok (zs : List Int) (a : Int) (n : Nat) (h : 0 ≤ a) (h2 : ¬ (zs.length : Int) - a < n) : ld zs a n = (le ((zs.drop a.toNat).take n), 0) := by
  rw [ld, if_neg (by omega), if_neg h2]
theorem ld_bd (zs : List Int) (a : Int) (n : Nat) (hz : Byt zs) : 0 ≤ (ld zs a n).1 ∧ (ld zs a n).1 < 256 ^ n := by
  unfold ld
  have hp : (0 : Int) < 256 ^ n := Int.pow_pos (by decide)
  split
  · exact ⟨by simp, hp⟩
  · split
    · exact ⟨by simp, hp⟩
    · have := le_bd ((hz.drop a.toNat).take n)
      rw [List.length_take, List.length_drop, Nat.min_eq_left (by omega)] at this
      exact this

theorem p256 (k : Nat) (h : k ≤ 8) : (256 : Int) ^ k ≤ 18446744073709551616 := by
  have : k = 0 ∨ k = 1 ∨ k = 2 ∨ k = 3 ∨ k = 4 ∨ k = 5 ∨ k = 6 ∨ k = 7 ∨ k = 8 := by omega
  rcases this with rfl | rfl | rfl | rfl | rfl | rfl | rfl | rfl | rfl <;> decide
/-- One round of the program's Load. -/
theorem le_or (L : List Int) (k : Nat) (hL : Byt L) (hk : k < L.length) (h8 : k < 8) :
    bits .or .u64 (le (L.take k)) (IntKind.u64.wrap (L.getD k 0 * 2 ^ (8 * k))) = le (L.take (k + 1)) := by
  have hz := hL.get k
  have hb := le_bd (hL.take k)
  have hb' := le_bd (hL.take (k + 1))
  have hlen : (L.take k).length = k := by simp; omega
  have hlen' : (L.take (k + 1)).length = k + 1 := by simp; omega
  rw [hlen] at hb
  rw [hlen'] at hb'
  have hs : le (L.take (k + 1)) = le (L.take k) + L.getD k 0 * 256 ^ k := by
    rw [List.take_succ_eq_append_getElem hk, le_snoc, hlen, List.getD_eq_getElem?_getD, List.getElem?_eq_getElem hk]; rfl
  have hp : (2 : Int) ^ (8 * k) = 256 ^ k := by rw [Int.pow_mul]; rfl
  have h64 := p256 (k + 1) (by omega)
  have hq : 0 ≤ L.getD k 0 * 256 ^ k := Int.mul_nonneg hz.1 (Int.le_of_lt (Int.pow_pos (by decide)))
  rw [IntKind.wrap_u64, hp, Int.emod_eq_of_lt hq (by omega), hs]
  rw [hs] at hb'
  clear hs
  generalize le (L.take k) = x at *
  generalize L.getD k 0 = y at *
  obtain ⟨A, rfl⟩ := Int.eq_ofNat_of_zero_le hb.1
  obtain ⟨Z, rfl⟩ := Int.eq_ofNat_of_zero_le hz.1
  have e1 : ((Z : Int) * 256 ^ k) = ((Z * 2 ^ (8 * k) : Nat) : Int) := by
    rw [Int.natCast_mul]; congr 1; rw [← hp]; simp
  have hA2 : A < 2 ^ (8 * k) := by
    have := hb.2
    rw [← hp] at this
    exact_mod_cast this
  rw [e1] at hb' ⊢
  rw [u64_or_nat _ _ (by omega) (by omega), Nat.or_comm, nat_join (8 * k) _ _ (by simp) hA2]
  omega
/-- One round of the document's Load, from the top. -/
theorem le_down (L : List Int) (k : Nat) (hk : k < L.length) : le (L.drop k) = le (L.drop (k + 1)) * 256 + L.getD k 0 := by
  rw [List.drop_eq_getElem_cons hk, le, List.getD_eq_getElem?_getD, List.getElem?_eq_getElem hk]
  simp; omega
theorem le_small (L : List Int) (k : Nat) (hL : Byt L) (h8 : L.length ≤ 8) : 0 ≤ le (L.drop k) ∧ le (L.drop k) < 18446744073709551616 := by
  have := le_bd (hL.drop k)
  have h := p256 (L.drop k).length (by simp; omega)
  omega
end Go.Proofs.YtkgemkfajkcgcaaDoor.Words
