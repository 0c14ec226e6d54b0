/-
  Plain facts on texts of six bits a letter (no Go in sight): a machine that takes bits and gives a number whenever it has N of them; what it does with a byte, with a letter.
-/
import Derived.Test.YtbjelenmnlmodabText
namespace Go.Proofs.Ytbjelenmnlmodab.B64
open Go Words Txt

/-- The letter of a number below 64. -/
def let6 (k : Int) : Int := if k < 26 then 65 + k else if k < 52 then 71 + k else if k < 62 then k - 4 else if k = 62 then 43 else 47
/-- What a letter is worth; -1: it is none. -/
def bw (c : Int) : Int :=
  if 65 ≤ c ∧ c ≤ 90 then c - 65 else if 97 ≤ c ∧ c ≤ 122 then c - 71 else if 48 ≤ c ∧ c ≤ 57 then c + 4 else if c = 43 then 62 else if c = 47 then 63 else -1
theorem bw_bd (c : Int) : -1 ≤ bw c ∧ bw c ≤ 63 := by unfold bw; repeat' split <;> omega
theorem let6_bd (k : Int) (h0 : 0 ≤ k) (h1 : k < 64) : 0 ≤ let6 k ∧ let6 k < 256 := by unfold let6; repeat' split <;> omega
theorem bw_let6 (k : Int) (h0 : 0 ≤ k) (h1 : k < 64) : bw (let6 k) = k := by unfold bw let6; repeat' split <;> omega
theorem let6_bw (c : Int) (h : bw c ≠ -1) : let6 (bw c) = c := by
  unfold bw at *
  unfold let6
  repeat' split at h
  all_goals repeat' split
  all_goals omega

/-- What was given, how many bits are kept, what they are worth. -/
structure St where
  out : List Int
  have_ : Nat
  worth : Int
/-- A bit comes. -/
def St.bit (N : Nat) (s : St) (b : Int) : St := if s.have_ + 1 = N then ⟨s.out ++ [2 * s.worth + b], 0, 0⟩ else ⟨s.out, s.have_ + 1, 2 * s.worth + b⟩
/-- The bits of a byte, the highest first. -/
def b8 (z : Int) : List Int := [z / 128 % 2, z / 64 % 2, z / 32 % 2, z / 16 % 2, z / 8 % 2, z / 4 % 2, z / 2 % 2, z % 2]
/-- The bits of a letter's worth, the highest first. -/
def b6 (z : Int) : List Int := [z / 32 % 2, z / 16 % 2, z / 8 % 2, z / 4 % 2, z / 2 % 2, z % 2]
/-- A byte comes, letters go. -/
def St.byte (s : St) (z : Int) : St := (b8 z).foldl (St.bit 6) s
/-- A letter comes, bytes go. -/
def St.lett (s : St) (v : Int) : St := (b6 v).foldl (St.bit 8) s
def st0 : St := ⟨[], 0, 0⟩
def E (zs : List Int) : St := zs.foldl St.byte st0
def D (vs : List Int) : St := vs.foldl St.lett st0
theorem E_snoc (zs : List Int) (z : Int) : E (zs ++ [z]) = (E zs).byte z := by simp [E, List.foldl_append]
theorem D_snoc (zs : List Int) (z : Int) : D (zs ++ [z]) = (D zs).lett z := by simp [D, List.foldl_append]

theorem byte0 (o : List Int) (z : Int) (h0 : 0 ≤ z) (h1 : z < 256) : St.byte ⟨o, 0, 0⟩ z = ⟨o ++ [z / 4], 2, z % 4⟩ := by
  simp only [St.byte, b8, List.foldl_cons, List.foldl_nil, St.bit, Nat.reduceAdd, Nat.reduceEqDiff, if_true, if_false]
  simp only [St.mk.injEq, true_and, List.append_cancel_left_eq, List.cons.injEq, and_true]
  omega
theorem byte2 (o : List Int) (h z : Int) (h0 : 0 ≤ z) (h1 : z < 256) : St.byte ⟨o, 2, h⟩ z = ⟨o ++ [16 * h + z / 16], 4, z % 16⟩ := by
  simp only [St.byte, b8, List.foldl_cons, List.foldl_nil, St.bit, Nat.reduceAdd, Nat.reduceEqDiff, if_true, if_false]
  simp only [St.mk.injEq, true_and, List.append_cancel_left_eq, List.cons.injEq, and_true]
  omega
theorem byte4 (o : List Int) (h z : Int) (h0 : 0 ≤ z) (h1 : z < 256) : St.byte ⟨o, 4, h⟩ z = ⟨o ++ [4 * h + z / 64] ++ [z % 64], 0, 0⟩ := by
  simp only [St.byte, b8, List.foldl_cons, List.foldl_nil, St.bit, Nat.reduceAdd, Nat.reduceEqDiff, if_true, if_false]
  simp only [St.mk.injEq, List.append_cancel_left_eq, List.append_assoc, List.cons_append, List.nil_append, List.cons.injEq, and_true]
  omega
theorem lett0 (o : List Int) (v : Int) (h0 : 0 ≤ v) (h1 : v < 64) : St.lett ⟨o, 0, 0⟩ v = ⟨o, 6, v⟩ := by
  simp only [St.lett, b6, List.foldl_cons, List.foldl_nil, St.bit, Nat.reduceAdd, Nat.reduceEqDiff, if_false]
  simp only [St.mk.injEq, true_and]
  omega
theorem lett6 (o : List Int) (h v : Int) (h0 : 0 ≤ v) (h1 : v < 64) : St.lett ⟨o, 6, h⟩ v = ⟨o ++ [4 * h + v / 16], 4, v % 16⟩ := by
  simp only [St.lett, b6, List.foldl_cons, List.foldl_nil, St.bit, Nat.reduceAdd, Nat.reduceEqDiff, if_true, if_false]
  simp only [St.mk.injEq, true_and, List.append_cancel_left_eq, List.cons.injEq, and_true]
  omega
theorem lett4 (o : List Int) (h v : Int) (h0 : 0 ≤ v) (h1 : v < 64) : St.lett ⟨o, 4, h⟩ v = ⟨o ++ [16 * h + v / 4], 2, v % 4⟩ := by
  simp only [St.lett, b6, List.foldl_cons, List.foldl_nil, St.bit, Nat.reduceAdd, Nat.reduceEqDiff, if_true, if_false]
  simp only [St.mk.injEq, true_and, List.append_cancel_left_eq, List.cons.injEq, and_true]
  omega
theorem lett2 (o : List Int) (h v : Int) (h0 : 0 ≤ v) (h1 : v < 64) : St.lett ⟨o, 2, h⟩ v = ⟨o ++ [64 * h + v], 0, 0⟩ := by
  simp only [St.lett, b6, List.foldl_cons, List.foldl_nil, St.bit, Nat.reduceAdd, Nat.reduceEqDiff, if_true, if_false]
  simp only [St.mk.injEq, List.append_cancel_left_eq, List.cons.injEq, and_true]
  omega

/-- What holds between two bytes. -/
structure St.Good6 (s : St) : Prop where
  out : ∀ x ∈ s.out, 0 ≤ x ∧ x < 64
  have_ : (s.have_ = 0 ∧ s.worth = 0) ∨ (s.have_ = 2 ∧ 0 ≤ s.worth ∧ s.worth < 4) ∨ (s.have_ = 4 ∧ 0 ≤ s.worth ∧ s.worth < 16)
/-- What holds between two letters. -/
structure St.Good8 (s : St) : Prop where
  out : Byt s.out
  have_ : (s.have_ = 0 ∧ s.worth = 0) ∨ (s.have_ = 6 ∧ 0 ≤ s.worth ∧ s.worth < 64) ∨ (s.have_ = 4 ∧ 0 ≤ s.worth ∧ s.worth < 16) ∨ (s.have_ = 2 ∧ 0 ≤ s.worth ∧ s.worth < 4)
theorem good6_byte {s : St} (h : s.Good6) (z : Int) (h0 : 0 ≤ z) (h1 : z < 256) : (s.byte z).Good6 := by
  obtain ⟨o, f, w⟩ := s
  obtain ⟨ho, hf⟩ := h
  simp only at ho hf
  have snoc : ∀ (l : List Int) (x : Int), (∀ y ∈ l, 0 ≤ y ∧ y < 64) → 0 ≤ x → x < 64 → ∀ y ∈ l ++ [x], 0 ≤ y ∧ y < 64 := by
    intro l x hl a b y hy
    rcases List.mem_append.1 hy with hy | hy
    · exact hl y hy
    · simp at hy; omega
  rcases hf with ⟨rfl, rfl⟩ | ⟨rfl, a, b⟩ | ⟨rfl, a, b⟩
  · rw [byte0 _ _ h0 h1]; exact ⟨snoc _ _ ho (by omega) (by omega), .inr (.inl ⟨rfl, by simp only; omega, by simp only; omega⟩)⟩
  · rw [byte2 _ _ _ h0 h1]; exact ⟨snoc _ _ ho (by omega) (by omega), .inr (.inr ⟨rfl, by simp only; omega, by simp only; omega⟩)⟩
  · rw [byte4 _ _ _ h0 h1]; exact ⟨snoc _ _ (snoc _ _ ho (by omega) (by omega)) (by omega) (by omega), .inl ⟨rfl, rfl⟩⟩
theorem good8_lett {s : St} (h : s.Good8) (v : Int) (h0 : 0 ≤ v) (h1 : v < 64) : (s.lett v).Good8 := by
  obtain ⟨o, f, w⟩ := s
  obtain ⟨ho, hf⟩ := h
  simp only at ho hf
  have snoc : ∀ (l : List Int) (x : Int), Byt l → 0 ≤ x → x < 256 → Byt (l ++ [x]) := fun l x hl a b => hl.append (Byt.mk a b Byt.nil)
  rcases hf with ⟨rfl, rfl⟩ | ⟨rfl, a, b⟩ | ⟨rfl, a, b⟩ | ⟨rfl, a, b⟩
  · rw [lett0 _ _ h0 h1]; exact ⟨ho, .inr (.inl ⟨rfl, by simp only; omega, by simp only; omega⟩)⟩
  · rw [lett6 _ _ _ h0 h1]; exact ⟨snoc _ _ ho (by omega) (by omega), .inr (.inr (.inl ⟨rfl, by simp only; omega, by simp only; omega⟩))⟩
  · rw [lett4 _ _ _ h0 h1]; exact ⟨snoc _ _ ho (by omega) (by omega), .inr (.inr (.inr ⟨rfl, by simp only; omega, by simp only; omega⟩))⟩
  · rw [lett2 _ _ _ h0 h1]; exact ⟨snoc _ _ ho (by omega) (by omega), .inl ⟨rfl, rfl⟩⟩
theorem foldl_snoc_ind {α : Type} {P : St → Prop} (f : St → α → St) (l : List α) (s : St) (h : P s) (hs : ∀ s x, x ∈ l → P s → P (f s x)) : P (l.foldl f s) := by
  induction l generalizing s with
  | nil => exact h
  | cons x l ih => exact ih (f s x) (hs s x (by simp) h) (fun s y hy => hs s y (by simp [hy]))
theorem good6_E {zs : List Int} (h : Byt zs) : (E zs).Good6 :=
  foldl_snoc_ind (P := St.Good6) _ _ _ ⟨by simp [st0], .inl ⟨rfl, rfl⟩⟩ fun _ x hx hs => good6_byte hs x (h x hx).1 (h x hx).2
theorem good8_D {vs : List Int} (h : ∀ v ∈ vs, 0 ≤ v ∧ v < 64) : (D vs).Good8 :=
  foldl_snoc_ind (P := St.Good8) _ _ _ ⟨Byt.nil, .inl ⟨rfl, rfl⟩⟩ fun _ x hx hs => good8_lett hs x (h x hx).1 (h x hx).2

/-- The letters' numbers, the last one filled up with noughts. -/
def F (zs : List Int) : List Int := (E zs).out ++ if (E zs).have_ = 0 then [] else [(E zs).worth * 2 ^ (6 - (E zs).have_)]
/-- The text. -/
def enc (zs : List Int) : List Int := (F zs).map let6
end Go.Proofs.Ytbjelenmnlmodab.B64
