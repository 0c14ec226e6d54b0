/-
 Which accesses a band has made; what is told of them races.
-/
import Derived.Test.YtdjanbojhblijaaGreatRc4g
import Derived.Test.YtdjanbojhblijaaGreatGmg
namespace Go.Proofs.YtdjanbojhblijaaGreat
open Go.RowKit
set_option linter.unusedVariables false
set_option linter.unusedSimpArgs false
namespace LW
open Mc
/-- Is an operation one that a list notes? (true: writes alone) -/
def anO (s : Bool) (op : Int) : Bool := if s then decide (op = 13) else decide (op = 12 ∨ op = 13)
/-- Is event i noted in the row of a list, a cell and a place? -/
def anB (l : List Ev) (f : Nat) (s : Bool) (c p i : Nat) : Bool := anO s (Tr.ev l i).op && (decide ((Tr.ev l i).a = (c : Int)) && decide ((Tr.ev l i).who = (f : Int) + (p : Int)))
def anL (l : List Ev) (f : Nat) (s : Bool) (c p k : Nat) : List Int := ((List.range k).filter (anB l f s c p)).map (fun i : Nat => (i : Int))
/-- All rows ahead of event k. -/
def anM (l : List Ev) (f M k : Nat) : Bool → Nat → Nat → List Int := fun s c p => if p < M then anL l f s c p k else []
theorem anB_iff (l : List Ev) (f : Nat) (s : Bool) (c p i : Nat) : anB l f s c p i = true ↔ anO s (Tr.ev l i).op = true ∧ (Tr.ev l i).a = (c : Int) ∧ (Tr.ev l i).who = (f : Int) + (p : Int) := by
 unfold anB
 simp [Bool.and_eq_true]
theorem anL_succ (l : List Ev) (f : Nat) (s : Bool) (c p k : Nat) : anL l f s c p (k + 1) = anL l f s c p k ++ (if anB l f s c p k then [(k : Int)] else []) := by
 unfold anL
 rw [List.range_succ, List.filter_append, List.map_append]
 congr 1
 by_cases h : anB l f s c p k = true
 ·simp [List.filter, h]
 ·simp [List.filter, h]
theorem anL_mem (l : List Ev) (f : Nat) (s : Bool) (c p k : Nat) (x : Int) : x ∈ anL l f s c p k ↔ ∃ i : Nat, x = (i : Int) ∧ i < k ∧ anB l f s c p i = true := by
 unfold anL
 rw [List.mem_map]
 constructor
 ·rintro ⟨i, hi, rfl⟩
  obtain ⟨h1, h2⟩ := List.mem_filter.1 hi
  exact ⟨i, rfl, List.mem_range.1 h1, h2⟩
 ·rintro ⟨i, rfl, h1, h2⟩
  exact ⟨i, List.mem_filter.2 ⟨List.mem_range.2 h1, h2⟩, rfl⟩
theorem anL_len (l : List Ev) (f : Nat) (s : Bool) (c p k : Nat) : (anL l f s c p k).length ≤ k := by
 unfold anL
 rw [List.length_map]
 exact Nat.le_trans (List.length_filter_le _ _) (by simp)
theorem anM_len (l : List Ev) (f M : Nat) (s : Bool) (c p k : Nat) : (anM l f M k s c p).length ≤ k := by
 unfold anM
 split
 ·exact anL_len l f s c p k
 ·exact Nat.zero_le _
theorem totN_same (g h : Nat → List Int) (M : Nat) (e : ∀ p, p < M → g p = h p) : totN g M = totN h M := by
 induction M with
 | zero => rfl
 | succ M ih =>
  unfold totN
  rw [ih (fun p hp => e p (by omega)), e M (by omega)]
/-- One row more grows by one. -/
theorem totN_one (g h : Nat → List Int) (p0 M : Nat) (e : ∀ p, p ≠ p0 → g p = h p) (e0 : (g p0).length ≤ (h p0).length + 1) : totN g M ≤ totN h M + 1 := by
 induction M with
 | zero => exact Nat.zero_le _
 | succ M ih =>
  unfold totN
  by_cases hM : M = p0
  ·subst hM
   have := totN_same g h M (fun p hp => e p (by omega))
   omega
  ·rw [e M hM]
   omega
theorem anM_tot (l : List Ev) (f M k : Nat) (s : Bool) (c : Nat) : totN (anM l f M k s c) M ≤ k := by
 induction k with
 | zero =>
  have h : ∀ M', totN (anM l f M 0 s c) M' = 0 := by
   intro M'
   induction M' with
   | zero => rfl
   | succ q ih =>
    unfold totN
    have h2 := anM_len l f M s c q 0
    omega
  exact Nat.le_of_eq (h M)
 | succ k ih =>
  have h1 := totN_one (anM l f M (k + 1) s c) (anM l f M k s c) ((Tr.ev l k).who - (f : Int)).toNat M (fun p hp => by
   unfold anM
   split
   ·rw [anL_succ, if_neg, List.append_nil]
    intro h
    have := ((anB_iff l f s c p k).1 h).2.2
    omega
   ·rfl) (by
   unfold anM
   split
   ·rw [anL_succ, List.length_append]
    split
    ·simp
    ·simp
   ·simp)
  omega
/-- An access that is none of a list's leaves it as it was. -/
theorem anM_no (l : List Ev) (f M k : Nat) (s : Bool) (c p : Nat) (h : anO s (Tr.ev l k).op = true → (Tr.ev l k).a ≠ (c : Int)) : anM l f M (k + 1) s c p = anM l f M k s c p := by
 unfold anM
 split
 ·rw [anL_succ, if_neg, List.append_nil]
  intro h2
  have h3 := (anB_iff l f s c p k).1 h2
  exact h h3.1 h3.2.1
 ·rfl
theorem anM_skip (l : List Ev) (f M k : Nat) (h1 : (Tr.ev l k).op ≠ 12) (h2 : (Tr.ev l k).op ≠ 13) : anM l f M (k + 1) = anM l f M k := by
 funext s c p
 refine anM_no l f M k s c p (fun h => ?_)
 exfalso
 unfold anO at h
 split at h
 ·exact h2 (of_decide_eq_true h)
 ·rcases of_decide_eq_true h with h | h
  ·exact h1 h
  ·exact h2 h
/-- What a noted access makes of the rows, place by place. -/
theorem csA_at (cs : Bool → Nat → Nat → List Int) (s : Bool) (c f M k : Nat) (who : Int) (s' : Bool) (c' p' : Nat) : csA cs s c (f : Int) M who (k : Int) s' c' p' = if s' = s ∧ c' = c ∧ p' < M ∧ who = (f : Int) + (p' : Int) then cs s' c' p' ++ [(k : Int)] else cs s' c' p' := by
 unfold csA
 by_cases h : 0 ≤ who - (f : Int) ∧ who - (f : Int) < (M : Int)
 ·rw [if_pos h]
  by_cases e : s' = s ∧ c' = c ∧ p' = (who - (f : Int)).toNat
  ·obtain ⟨rfl, rfl, rfl⟩ := e
   rw [up3_same, if_pos ⟨rfl, rfl, by omega, by omega⟩]
  ·rw [up3_other _ _ _ _ _ _ _ _ e, if_neg]
   rintro ⟨h1, h2, h3, h4⟩
   exact e ⟨h1, h2, by omega⟩
 ·rw [if_neg h, if_neg]
  rintro ⟨_, _, h3, h4⟩
  exact h (by omega)
theorem anM_at (l : List Ev) (f M k : Nat) (s : Bool) (c p : Nat) : anM l f M (k + 1) s c p = if p < M ∧ anB l f s c p k = true then anM l f M k s c p ++ [(k : Int)] else anM l f M k s c p := by
 unfold anM
 by_cases h : p < M
 ·rw [if_pos h, if_pos h, anL_succ]
  by_cases h2 : anB l f s c p k = true
  ·rw [if_pos h2, if_pos ⟨h, h2⟩]
  ·rw [if_neg h2, if_neg (fun h3 => h2 h3.2), List.append_nil]
 ·rw [if_neg h, if_neg h, if_neg (fun h3 => h h3.1)]
/-- A read: noted among all. -/
theorem anM_read (l : List Ev) (f M k c : Nat) (h1 : (Tr.ev l k).op = 12) (h2 : (Tr.ev l k).a = (c : Int)) : anM l f M (k + 1) = csA (anM l f M k) false c (f : Int) M (Tr.ev l k).who (k : Int) := by
 funext s c' p
 rw [anM_at, csA_at]
 have hb := anB_iff l f s c' p k
 rw [h1, h2] at hb
 cases s with
 | true =>
  rw [if_neg (fun h => by have := (hb.1 h.2).1; exact absurd this (by decide)), if_neg (fun h => by cases h.1)]
 | false =>
  by_cases h : p < M ∧ anB l f false c' p k = true
  ·have h3 := hb.1 h.2
   rw [if_pos h, if_pos ⟨rfl, by have := h3.2.1; omega, h.1, h3.2.2⟩]
  ·rw [if_neg h, if_neg]
   rintro ⟨_, h4, h5, h6⟩
   exact h ⟨h5, hb.2 ⟨by decide, by rw [h4], h6⟩⟩
/-- A write: noted among all and among the writes. -/
theorem anM_write (l : List Ev) (f M k c : Nat) (h1 : (Tr.ev l k).op = 13) (h2 : (Tr.ev l k).a = (c : Int)) : anM l f M (k + 1) = csA (csA (anM l f M k) false c (f : Int) M (Tr.ev l k).who (k : Int)) true c (f : Int) M (Tr.ev l k).who (k : Int) := by
 funext s c' p
 rw [anM_at, csA_at, csA_at]
 have hb := anB_iff l f s c' p k
 rw [h1, h2] at hb
 have ho : anO s 13 = true := by cases s <;> decide
 by_cases h : p < M ∧ anB l f s c' p k = true
 ·have h3 := hb.1 h.2
  have h4 : c' = c := by have := h3.2.1; omega
  rw [if_pos h]
  cases s with
  | true => rw [if_pos ⟨rfl, h4, h.1, h3.2.2⟩, if_neg (fun h => by cases h.1)]
  | false => rw [if_neg (fun h => by cases h.1), if_pos ⟨rfl, h4, h.1, h3.2.2⟩]
 ·have h5 : ¬ (c' = c ∧ p < M ∧ (Tr.ev l k).who = (f : Int) + (p : Int)) := fun h6 => h ⟨h6.2.1, hb.2 ⟨ho, by rw [h6.1], h6.2.2⟩⟩
  rw [if_neg h, if_neg (fun h6 => h5 h6.2), if_neg (fun h6 => h5 h6.2)]
/-- Two accesses that race. -/
def RcP (s : Syst) (l : List Ev) (x : Int × Int) : Prop := ∃ i j : Nat, x = ((i : Int), (j : Int)) ∧ i < j ∧ j < l.length ∧ (Tr.ev l i).a = (Tr.ev l j).a ∧ ((Tr.ev l i).op = 12 ∨ (Tr.ev l i).op = 13) ∧ ((Tr.ev l j).op = 12 ∨ (Tr.ev l j).op = 13) ∧ ((Tr.ev l i).op = 13 ∨ (Tr.ev l j).op = 13) ∧ ¬ Tr.Bf s l i j
/-- What unseen tells of event k are races. -/
theorem usP_race (s : Syst) (l : List Ev) (f M k c : Nat) (sb : Bool) (x : Int × Int) (hk : k < l.length) (ha : (Tr.ev l k).a = (c : Int)) (hop : (Tr.ev l k).op = 13 ∨ ((Tr.ev l k).op = 12 ∧ sb = true)) (rows : List (List Int)) (hr : ∀ i, i < l.length → rows.getD i [] = clL s l f M i) (h2 : x.2 = (k : Int)) (h : UsP (anM l f M k sb c) rows k M x.1) : RcP s l x := by
 obtain ⟨p, hp, hx, hlt⟩ := h
 unfold anM at hx
 rw [if_pos hp] at hx
 obtain ⟨i, hi, hik, hb⟩ := (anL_mem l f sb c p k x.1).1 hx
 obtain ⟨b1, b2, b3⟩ := (anB_iff l f sb c p i).1 hb
 have hil : i < l.length := by omega
 rw [hi, Int.toNat_natCast, hr i hil, hr k hk] at hlt
 unfold clL at hlt
 rw [rng_getD _ M p hp, rng_getD _ M p hp] at hlt
 have hop1 : (Tr.ev l i).op = 12 ∨ (Tr.ev l i).op = 13 := by
  unfold anO at b1
  split at b1
  ·exact .inr (of_decide_eq_true b1)
  ·exact of_decide_eq_true b1
 refine ⟨i, k, by rw [← hi, ← h2], hik, hk, by rw [b2, ha], hop1, ?_, ?_, ?_⟩
 ·rcases hop with h | h
  ·exact .inr h
  ·exact .inl h.1
 ·rcases hop with h | h
  ·exact .inr h
  ·refine .inl ?_
   rw [h.2] at b1
   exact of_decide_eq_true b1
 ·intro hbf
  have h5 := ((Tr.bf_iff s l i k hil hk).1 hbf).2
  have e : ((f + p : Nat) : Int) = (Tr.ev l i).who := by rw [b3]; omega
  rw [e] at hlt
  omega
end LW
end Go.Proofs.YtdjanbojhblijaaGreat
