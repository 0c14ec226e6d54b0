/-
  Runners, events and truths as cells.
-/
import Derived.Test.YtghpfhoajcgghaaQueue
namespace Go.Proofs.Ytghpfhoajcgghaa
open Go.RowKit
set_option linter.unusedVariables false
set_option linter.unusedSimpArgs false
namespace LW
open Mc
/-- Structs of n cells each, one behind the other. -/
def flC {α : Type} (n : Nat) (f : α → Nat → Value) : List α → List Value
  | [] => []
  | x :: l => (List.range n).map (f x) ++ flC n f l
theorem flC_len {α : Type} (n : Nat) (f : α → Nat → Value) : ∀ l : List α, (flC n f l).length = l.length * n
  | [] => by simp [flC]
  | x :: l => by rw [flC, List.length_append, flC_len n f l, List.length_map, List.length_range, List.length_cons, Nat.succ_mul]; omega
theorem flC_get {α : Type} (n : Nat) (f : α → Nat → Value) (d : α) : ∀ (l : List α) k j, k < l.length → j < n → (flC n f l)[k * n + j]? = some (f (l.getD k d) j)
  | [], k, j, h, _ => by simp at h
  | x :: l, 0, j, h, hj => by
    rw [flC, Nat.zero_mul, Nat.zero_add, List.getElem?_append_left (by simpa using hj), List.getElem?_map, List.getElem?_range hj]
    rfl
  | x :: l, k + 1, j, h, hj => by
    have hl : ((List.range n).map (f x)).length = n := by simp
    rw [flC, List.getElem?_append_right (by rw [hl, Nat.succ_mul]; omega), hl, show (k + 1) * n + j - n = k * n + j by rw [Nat.succ_mul]; omega]
    rw [flC_get n f d l k j (by simpa using h) hj]
    rfl
theorem flC_append {α : Type} (n : Nat) (f : α → Nat → Value) : ∀ l m : List α, flC n f (l ++ m) = flC n f l ++ flC n f m
  | [], m => rfl
  | x :: l, m => by rw [List.cons_append, flC, flC, flC_append n f l m, List.append_assoc]
/-- One cell of one struct is set. -/
theorem flC_set {α : Type} (n : Nat) (f : α → Nat → Value) (d : α) (l : List α) (k j0 : Nat) (y : α) (v : Value) (hk : k < l.length) (hj0 : j0 < n) (h : ∀ j, j < n → f y j = if j = j0 then v else f (l.getD k d) j) : flC n f (l.set k y) = (flC n f l).set (k * n + j0) v := by
  apply List.ext_getElem?
  intro i
  rcases Nat.lt_or_ge i (l.length * n) with hi | hi
  · have hn : 0 < n := by omega
    obtain ⟨q, j, hq, hj, rfl⟩ : ∃ q j, q < l.length ∧ j < n ∧ i = q * n + j := ⟨i / n, i % n, (Nat.div_lt_iff_lt_mul hn).2 hi, Nat.mod_lt _ hn, by rw [Nat.mul_comm]; exact (Nat.div_add_mod i n).symm⟩
    rw [flC_get n f d _ q j (by simpa using hq) hj, List.getElem?_set]
    by_cases hqk : q = k
    · subst hqk
      have hg : (l.set q y).getD q d = y := by simp [List.getD_eq_getElem?_getD, hk]
      rw [hg, h j hj]
      by_cases hjj : j = j0
      · subst hjj
        rw [if_pos rfl, if_pos rfl, if_pos (by rw [flC_len]; exact hi)]
      · rw [if_neg hjj, if_neg (by omega), flC_get n f d l q j hk hj]
    · have hg : (l.set k y).getD q d = l.getD q d := by simp [List.getD_eq_getElem?_getD, List.getElem?_set_ne (Ne.symm hqk)]
      have hne : ¬ k * n + j0 = q * n + j := by
        intro he
        apply hqk
        have h1 : (k * n + j0) / n = k := by rw [Nat.mul_comm, Nat.mul_add_div hn, Nat.div_eq_of_lt hj0, Nat.add_zero]
        have h2 : (q * n + j) / n = q := by rw [Nat.mul_comm, Nat.mul_add_div hn, Nat.div_eq_of_lt hj, Nat.add_zero]
        rw [he, h2] at h1
        exact h1
      rw [hg, if_neg hne, flC_get n f d l q j hq hj]
  · rw [List.getElem?_eq_none (by rw [flC_len, List.length_set]; exact hi), List.getElem?_eq_none (by rw [List.length_set, flC_len]; exact hi)]
def rnC (l : List Rn) : List Value := flC 11 rnV l
def evV (e : Ev) (j : Nat) : Value := if j = 0 then .int .i64 e.who else if j = 1 then .int .i64 e.op else if j = 2 then .int .i64 e.a else if j = 3 then .int .i64 e.value else .bool e.shut
def evC (l : List Ev) : List Value := flC 5 evV l
/-- A register is set: one cell of the runners. -/
theorem rnC_setR (t : St) (k : Nat) (r v : Int) (hk : k < t.rns.length) (hr : 0 ≤ r ∧ r < 8) (hl : (Mc.rn t k).regs.length = 8) : rnC (Mc.setR t k r v) = (rnC t.rns).set (k * 11 + (2 + r.toNat)) (.int .i64 v) := by
  unfold rnC Mc.setR
  refine flC_set 11 rnV r0 t.rns k (2 + r.toNat) _ _ hk (by omega) (fun j hj => ?_)
  show rnV { Mc.rn t k with regs := (Mc.rn t k).regs.set r.toNat v } j = if j = 2 + r.toNat then _ else rnV (Mc.rn t k) j
  unfold rnV
  by_cases h0 : j = 0
  · rw [if_pos h0, if_neg (by omega), if_pos h0]
  rw [if_neg h0]
  by_cases h1 : j = 1
  · rw [if_pos h1, if_neg (by omega), if_neg h0, if_pos h1]
  rw [if_neg h1]
  by_cases h2 : j < 10
  · rw [if_pos h2]
    dsimp only
    rw [getD_set]
    by_cases hj2 : j = 2 + r.toNat
    · rw [if_pos ⟨by omega, by omega⟩, if_pos hj2]
    · rw [if_neg (by omega), if_neg hj2, if_neg h0, if_neg h1, if_pos h2]
  · rw [if_neg h2, if_neg (by omega), if_neg h0, if_neg h1, if_neg h2]
/-- A place is set. -/
theorem rnC_setP (t : St) (k : Nat) (p : Int) (hk : k < t.rns.length) : rnC (Mc.setP t k p) = (rnC t.rns).set (k * 11 + 1) (.int .i64 p) := by
  unfold rnC Mc.setP
  refine flC_set 11 rnV r0 t.rns k 1 _ _ hk (by omega) (fun j hj => ?_)
  show rnV { Mc.rn t k with pos := p } j = if j = 1 then _ else rnV (Mc.rn t k) j
  unfold rnV
  by_cases h0 : j = 0
  · rw [if_pos h0, if_neg (by omega), if_pos h0]
  by_cases h1 : j = 1
  · rw [if_neg h0, if_pos h1, if_pos h1]
  · rw [if_neg h0, if_neg h1, if_neg h1, if_neg h0, if_neg h1]
/-- A runner ends. -/
theorem rnC_done (t : St) (k : Nat) (e : Bool) (hk : k < t.rns.length) : rnC (t.rns.set k { Mc.rn t k with ended := e }) = (rnC t.rns).set (k * 11 + 10) (.bool e) := by
  unfold rnC
  refine flC_set 11 rnV r0 t.rns k 10 _ _ hk (by omega) (fun j hj => ?_)
  show rnV { Mc.rn t k with ended := e } j = if j = 10 then _ else rnV (Mc.rn t k) j
  unfold rnV
  by_cases h0 : j = 0
  · rw [if_pos h0, if_neg (by omega), if_pos h0]
  by_cases h1 : j = 1
  · rw [if_neg h0, if_pos h1, if_neg (by omega), if_neg h0, if_pos h1]
  by_cases h2 : j < 10
  · rw [if_neg h0, if_neg h1, if_pos h2, if_neg (by omega), if_neg h0, if_neg h1, if_pos h2]
  · rw [if_neg h0, if_neg h1, if_neg h2, if_pos (by omega)]
end LW
end Go.Proofs.Ytghpfhoajcgghaa
