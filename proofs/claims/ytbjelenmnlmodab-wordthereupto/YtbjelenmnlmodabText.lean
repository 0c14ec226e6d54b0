/-
  Plain facts on texts of hexadecimal digits (no Go in sight).
-/
import Derived.Test.YtbjelenmnlmodabWords
namespace Go.Proofs.Ytbjelenmnlmodab.Txt
open Go Words

/-- A text's bytes as numbers. -/
def sb (s : ByteArray) : List Int := s.data.toList.map fun b => (b.toNat : Int)
theorem sb_length (s : ByteArray) : (sb s).length = s.size := by simp [sb]
theorem sb_byt (s : ByteArray) : Byt (sb s) := by
  intro z hz
  simp only [sb, List.mem_map] at hz
  obtain ⟨b, _, rfl⟩ := hz
  have := b.toNat_lt
  omega
theorem sb_get (s : ByteArray) (k : Nat) (h : k < s.size) : (sb s).getD k 0 = (s[k].toNat : Int) := by
  have h' : k < s.data.toList.length := by simpa using h
  rw [List.getD_eq_getElem?_getD, sb, List.getElem?_map, List.getElem?_eq_getElem h']
  rfl
theorem sb_inj {s t : ByteArray} (h : sb s = sb t) : s = t := by
  have h2 : s.data.toList = t.data.toList := by
    have inj : ∀ a b : UInt8, (a.toNat : Int) = (b.toNat : Int) → a = b := fun a b h => UInt8.toNat_inj.1 (by omega)
    have : ∀ l m : List UInt8, l.map (fun b => (b.toNat : Int)) = m.map (fun b => (b.toNat : Int)) → l = m := by
      intro l
      induction l with
      | nil => intro m hm; cases m with
        | nil => rfl
        | cons => simp at hm
      | cons x l ih => intro m hm; cases m with
        | nil => simp at hm
        | cons y m =>
          simp only [List.map_cons, List.cons.injEq] at hm
          rw [inj x y hm.1, ih m hm.2]
    exact this _ _ h
  cases s; cases t
  simp only [ByteArray.mk.injEq]
  exact Array.toList_inj.1 h2

/-- What a digit is worth; -1: it is none. -/
def hw (c : Int) : Int :=
  if 48 ≤ c ∧ c ≤ 57 then c - 48 else if 97 ≤ c ∧ c ≤ 102 then c - 87 else if 65 ≤ c ∧ c ≤ 70 then c - 55 else -1
theorem hw_bd (c : Int) : -1 ≤ hw c ∧ hw c ≤ 15 := by unfold hw; repeat' split <;> omega

/-- The first place whose byte is worth nothing; the length, if there is none. -/
def bad (g : Int → Int) : List Int → Nat
  | [] => 0
  | x :: l => if g x = -1 then 0 else bad g l + 1
theorem bad_le (g : Int → Int) (l : List Int) : bad g l ≤ l.length := by
  induction l with
  | nil => simp [bad]
  | cons x l ih => simp only [bad, List.length_cons]; split <;> omega
theorem bad_spec (g : Int → Int) (l : List Int) (k : Nat) (h : k ≤ l.length) (hk : ∀ j, j < k → g (l.getD j 0) ≠ -1) (hb : k < l.length → g (l.getD k 0) = -1) : bad g l = k := by
  induction l generalizing k with
  | nil => simp at h; simp [bad, h]
  | cons x l ih =>
    cases k with
    | zero =>
      have h1 : g x = -1 := by simpa using hb (by simp)
      simp [bad, h1]
    | succ k =>
      have h0 : g x ≠ -1 := by simpa using hk 0 (by omega)
      have h2 := ih k (by simpa using h) (fun j hj => by simpa using hk (j + 1) (by omega)) (fun hl => by simpa using hb (by simpa using hl))
      simp [bad, h0, h2]
theorem bad_before (g : Int → Int) (l : List Int) (j : Nat) (h : j < bad g l) : g (l.getD j 0) ≠ -1 := by
  induction l generalizing j with
  | nil => simp [bad] at h
  | cons x l ih =>
    simp only [bad] at h
    split at h
    · omega
    · rename_i hx
      cases j with
      | zero => simpa using hx
      | succ j => simpa using ih j (by omega)
theorem bad_at (g : Int → Int) (l : List Int) (h : bad g l < l.length) : g (l.getD (bad g l) 0) = -1 := by
  induction l with
  | nil => simp at h
  | cons x l ih =>
    by_cases hx : g x = -1
    · simp [bad, hx]
    · simp only [bad, hx, if_false, List.length_cons] at h ⊢
      simpa using ih (by omega)

/-- Two digits, one byte. -/
def uh : List Int → List Int
  | a :: b :: l => (16 * hw a + hw b) :: uh l
  | _ => []
/-- Is the text taken? -/
def hexOk (l : List Int) : Bool := decide (bad hw l = l.length ∧ l.length % 2 = 0)
/-- The bytes that are answered. -/
def hexB (l : List Int) : List Int := if hexOk l then uh l else []
/-- The place that is answered. -/
def hexAt (l : List Int) : Int := if hexOk l then 0 else bad hw l
/-- The error that is answered. -/
def hexE (l : List Int) : Int := if hexOk l then 0 else 4
theorem uh_length (l : List Int) : (uh l).length = l.length / 2 := by
  match l with
  | [] => rfl
  | [a] => simp [uh]
  | a :: b :: l => simp [uh, uh_length l]; omega
/-- A round: the next pair. -/
theorem uh_take (l : List Int) (k : Nat) (h : 2 * k + 1 < l.length) : uh (l.take (2 * (k + 1))) = uh (l.take (2 * k)) ++ [16 * hw (l.getD (2 * k) 0) + hw (l.getD (2 * k + 1) 0)] := by
  induction k generalizing l with
  | zero =>
    match l, h with
    | a :: b :: l, _ => simp [uh]
  | succ k ih =>
    match l, h with
    | a :: b :: l, h =>
      have := ih l (by simp at h; omega)
      have e1 : 2 * (k + 1 + 1) = 2 * (k + 1) + 1 + 1 := by omega
      have e2 : 2 * (k + 1) = 2 * k + 1 + 1 := by omega
      rw [e1, List.take_succ_cons, List.take_succ_cons, e2, List.take_succ_cons, List.take_succ_cons]
      simp only [uh, List.cons_append, List.getD_cons_succ]
      rw [← e2, this]
theorem uh_get (l : List Int) (k : Nat) (h : k < l.length / 2) : (uh l).getD k 0 = 16 * hw (l.getD (2 * k) 0) + hw (l.getD (2 * k + 1) 0) := by
  induction k generalizing l with
  | zero => match l, h with
    | [], h => simp at h
    | [_], h => simp at h
    | a :: b :: l, _ => simp [uh]
  | succ k ih => match l, h with
    | [], h => simp at h
    | [_], h => simp at h
    | a :: b :: l, h =>
      have := ih l (by simp at h; omega)
      simp only [uh, List.getD_cons_succ, show 2 * (k + 1) = 2 * k + 1 + 1 by omega]
      exact this
end Go.Proofs.Ytbjelenmnlmodab.Txt
