/-
 Lists of events that may be a trace, as plain mathematics.
-/
import Derived.Test.YtdjanbojhblijaaGreatGoodg
namespace Go.Proofs.YtdjanbojhblijaaGreat
open Go
set_option linter.unusedVariables false
set_option linter.unusedSimpArgs false
namespace Tr
open Mc
def e0 : Ev := ⟨0, 0, 0, 0, false⟩
/-- How many runners there are behind a list. -/
def rnC (l : List Ev) : Nat := 1 + l.countP (fun e => decide (e.op = 14 ∧ e.value ≠ 0))
/-- How many values went into a channel. -/
def snC (l : List Ev) (c : Int) : Nat := l.countP (fun e => decide (e.op = 5 ∧ e.a = c))
/-- How many came out. -/
def tkC (l : List Ev) (c : Int) : Nat := l.countP (fun e => decide (e.op = 6 ∧ e.shut = false ∧ e.a = c))
/-- Was it closed? -/
def clC (l : List Ev) (c : Int) : Bool := l.any (fun e => decide (e.op = 7 ∧ e.a = c))
/-- Who holds a lock behind an event. -/
def hdS (h : Option Int) (k : Int) (e : Ev) : Option Int := if e.op = 8 ∧ e.a = k then some e.who else if e.op = 9 ∧ e.a = k then none else h
/-- Who holds a lock behind a list. -/
def hdC (l : List Ev) (k : Int) : Option Int := l.foldl (fun h e => hdS h k e) none
theorem rnC_snoc (l : List Ev) (e : Ev) : rnC (l ++ [e]) = rnC l + (if e.op = 14 ∧ e.value ≠ 0 then 1 else 0) := by
 unfold rnC
 rw [List.countP_append, List.countP_cons, List.countP_nil]
 split <;> simp_all <;> omega
theorem snC_snoc (l : List Ev) (e : Ev) (c : Int) : snC (l ++ [e]) c = snC l c + (if e.op = 5 ∧ e.a = c then 1 else 0) := by
 unfold snC
 rw [List.countP_append, List.countP_cons, List.countP_nil]
 split <;> simp_all
theorem tkC_snoc (l : List Ev) (e : Ev) (c : Int) : tkC (l ++ [e]) c = tkC l c + (if e.op = 6 ∧ e.shut = false ∧ e.a = c then 1 else 0) := by
 unfold tkC
 rw [List.countP_append, List.countP_cons, List.countP_nil]
 split <;> simp_all
theorem clC_snoc (l : List Ev) (e : Ev) (c : Int) : clC (l ++ [e]) c = (clC l c || decide (e.op = 7 ∧ e.a = c)) := by
 simp [clC]
theorem hdC_snoc (l : List Ev) (e : Ev) (k : Int) : hdC (l ++ [e]) k = hdS (hdC l k) k e := by
 simp [hdC, List.foldl_append]
theorem take_snoc (l : List Ev) (i : Nat) (h : i < l.length) : l.take (i + 1) = l.take i ++ [l.getD i e0] := by
 rw [List.take_add_one, List.getD_eq_getElem?_getD, List.getElem?_eq_getElem h]
 rfl
/-- How many there are of what A is one of. -/
def mnC (s : Syst) (op : Int) : Option Int :=
 if op = 5 ∨ op = 6 ∨ op = 7 then some s.rooms.length
 else if op = 8 ∨ op = 9 then some s.locks
 else if op = 10 ∨ op = 11 then some s.groups
 else if op = 12 ∨ op = 13 then some s.cells
 else if op = 14 then some s.progs.length
 else none
/-- An event that may come next, by itself. -/
structure FitA (s : Syst) (p : List Ev) (e : Ev) : Prop where
 w0 : 0 ≤ e.who
 w1 : e.who < rnC p
 o0 : 1 ≤ e.op
 o1 : e.op ≤ 16
 a : ∀ m, mnC s e.op = some m → 0 ≤ e.a ∧ e.a < m
/-- An event that may come next. -/
structure FitE (s : Syst) (p : List Ev) (e : Ev) : Prop extends FitA s p e where
 st : e.op = 14 → e.value = 0 ∨ (e.value = rnC p ∧ rnC p < 512)
 tk : e.op = 6 → e.shut = false → tkC p e.a < snC p e.a
 ts : e.op = 6 → e.shut = true → clC p e.a = true
 lk : e.op = 8 → hdC p e.a = none
/-- So many events from the first on may be a trace. -/
def Gd (s : Syst) (l : List Ev) (i : Nat) : Prop := ∀ j, j < i → FitE s (l.take j) (l.getD j e0)
theorem Gd.zero (s : Syst) (l : List Ev) : Gd s l 0 := fun j hj => absurd hj (Nat.not_lt_zero _)
theorem Gd.succ {s : Syst} {l : List Ev} {i : Nat} (h : Gd s l i) (hf : FitE s (l.take i) (l.getD i e0)) : Gd s l (i + 1) := fun j hj => by
 rcases Nat.lt_succ_iff_lt_or_eq.1 hj with h1 | rfl
 ·exact h j h1
 ·exact hf
/-- Whether a system may be is told by looking. -/
def decR (s : Syst) (p : Nat) (i : Ins) : Decidable (rightM s p i) := by
 unfold rightM fitM
 exact inferInstance
def decO (s : Syst) : Decidable (Ok s) :=
 have d : ∀ p i, Decidable (rightM s p i) := decR s
 decidable_of_iff ((1 ≤ s.progs.length ∧ s.progs.length ≤ 64 ∧ s.rooms.length ≤ 64 ∧ (0 ≤ s.groups ∧ s.groups ≤ 64) ∧ (0 ≤ s.locks ∧ s.locks ≤ 64) ∧ (0 ≤ s.cells ∧ s.cells ≤ 64)) ∧ (∀ i, i < s.rooms.length → 1 ≤ s.rooms.getD i 0 ∧ s.rooms.getD i 0 ≤ 1024) ∧ (∀ p, p < s.progs.length → (s.progs.getD p []).length ≤ 256) ∧ (∀ p, p < s.progs.length → ∀ j, j < (s.progs.getD p []).length → rightM s p ((s.progs.getD p []).getD j i0)))
  ⟨fun h => ⟨h.1.1, h.1.2.1, h.1.2.2.1, h.1.2.2.2.1, h.1.2.2.2.2.1, h.1.2.2.2.2.2, h.2.1, h.2.2.1, h.2.2.2⟩, fun h => ⟨⟨h.p1, h.p2, h.r1, h.g1, h.l1, h.c1⟩, h.rm, h.pl, h.rt⟩⟩
/-- Whether an event may be is told by looking. -/
def decF (s : Syst) (p : List Ev) (e : Ev) : Decidable (FitE s p e) :=
 decidable_of_iff ((0 ≤ e.who ∧ e.who < rnC p ∧ 1 ≤ e.op ∧ e.op ≤ 16 ∧ (mnC s e.op).all (fun m => decide (0 ≤ e.a ∧ e.a < m)) = true) ∧ (e.op = 14 → e.value = 0 ∨ (e.value = rnC p ∧ rnC p < 512)) ∧ (e.op = 6 → e.shut = false → tkC p e.a < snC p e.a) ∧ (e.op = 6 → e.shut = true → clC p e.a = true) ∧ (e.op = 8 → hdC p e.a = none))
  ⟨fun h => ⟨⟨h.1.1, h.1.2.1, h.1.2.2.1, h.1.2.2.2.1, fun m hm => by
    have h5 := h.1.2.2.2.2
    rw [hm] at h5
    exact of_decide_eq_true h5⟩, h.2.1, h.2.2.1, h.2.2.2.1, h.2.2.2.2⟩,
   fun h => ⟨⟨h.w0, h.w1, h.o0, h.o1, by
    rcases hm : mnC s e.op with _ | m
    ·rfl
    ·exact decide_eq_true (h.a m hm)⟩, h.st, h.tk, h.ts, h.lk⟩⟩
/-- The first of n events that may not be. -/
def fstB (s : Syst) (l : List Ev) : Nat → Option Nat
 | 0 => none
 | n + 1 => match fstB s l n with
  | some i => some i
  | none => @ite _ (FitE s (l.take n) (l.getD n e0)) (decF s (l.take n) (l.getD n e0)) none (some n)
theorem fstB_good {s : Syst} {l : List Ev} {i : Nat} (hg : Gd s l i) : ∀ n, n ≤ i → fstB s l n = none
 | 0, _ => rfl
 | n + 1, h => by
  rw [fstB, fstB_good hg n (by omega)]
  exact if_pos (hg n (by omega))
theorem fstB_bad {s : Syst} {l : List Ev} {i : Nat} (hg : Gd s l i) (hf : ¬ FitE s (l.take i) (l.getD i e0)) : ∀ n, i < n → fstB s l n = some i
 | 0, h => absurd h (Nat.not_lt_zero _)
 | n + 1, h => by
  rcases Nat.lt_succ_iff_lt_or_eq.1 h with h1 | rfl
  ·rw [fstB, fstB_bad hg hf n h1]
  ·rw [fstB, fstB_good hg i (Nat.le_refl _)]
   exact if_neg hf
/-- What Valid and Runners answer: the event, the runners, the error. -/
def vR (s : Syst) (l : List Ev) : Int × Int × Int :=
 @ite _ (Ok s) (decO s)
  (if 40000 < l.length then (0, 0, 2)
  else match fstB s l l.length with
   | some i => ((i : Int), 0, 140)
   | none => (0, rnC l, 0))
  (0, 0, 130)
theorem vR_sys {s : Syst} {l : List Ev} (h : ¬ Ok s) : vR s l = (0, 0, 130) := by
 unfold vR; rw [if_neg h]
theorem vR_long {s : Syst} {l : List Ev} (h : Ok s) (h1 : 40000 < l.length) : vR s l = (0, 0, 2) := by
 unfold vR; rw [if_pos h, if_pos h1]
theorem vR_bad {s : Syst} {l : List Ev} {i : Nat} (h : Ok s) (h1 : ¬ 40000 < l.length) (hi : i < l.length) (hg : Gd s l i) (hf : ¬ FitE s (l.take i) (l.getD i e0)) : vR s l = ((i : Int), 0, 140) := by
 unfold vR
 rw [if_pos h, if_neg h1, fstB_bad hg hf l.length hi]
theorem vR_good {s : Syst} {l : List Ev} (h : Ok s) (h1 : ¬ 40000 < l.length) (hg : Gd s l l.length) : vR s l = (0, (rnC l : Int), 0) := by
 unfold vR
 rw [if_pos h, if_neg h1, fstB_good hg l.length (Nat.le_refl _)]
/-- Where no error is told, the list is a trace. -/
theorem vR_ok {s : Syst} {l : List Ev} (h : (vR s l).2.2 = 0) : Ok s ∧ l.length ≤ 40000 ∧ Gd s l l.length ∧ vR s l = (0, (rnC l : Int), 0) := by
 by_cases h1 : Ok s
 ·by_cases h2 : 40000 < l.length
  ·rw [vR_long h1 h2] at h; simp at h
  ·by_cases h3 : ∃ i, i < l.length ∧ Gd s l i ∧ ¬ FitE s (l.take i) (l.getD i e0)
   ·obtain ⟨i, hi, hg, hf⟩ := h3
    rw [vR_bad h1 h2 hi hg hf] at h; simp at h
   ·have hg : ∀ i, i ≤ l.length → Gd s l i := by
     intro i
     induction i with
     | zero => exact fun _ => Gd.zero s l
     | succ i ih => exact fun hi => (ih (by omega)).succ (Classical.byContradiction fun hf => h3 ⟨i, by omega, ih (by omega), hf⟩)
    exact ⟨h1, by omega, hg _ (Nat.le_refl _), vR_good h1 h2 (hg _ (Nat.le_refl _))⟩
 ·rw [vR_sys h1] at h; simp at h
theorem rnC_pos (l : List Ev) : 1 ≤ rnC l := by unfold rnC; omega
theorem rnC_len (l : List Ev) : rnC l ≤ l.length + 1 := by
 unfold rnC
 have := List.countP_le_length (p := fun e : Ev => decide (e.op = 14 ∧ e.value ≠ 0)) (l := l)
 omega
theorem snC_len (l : List Ev) (c : Int) : snC l c ≤ l.length := List.countP_le_length
theorem tkC_len (l : List Ev) (c : Int) : tkC l c ≤ l.length := List.countP_le_length
theorem rnC_le {s : Syst} {l : List Ev} (i : Nat) (hi : i ≤ l.length) (h : Gd s l i) : rnC (l.take i) ≤ 512 := by
 induction i with
 | zero => simp [rnC]
 | succ i ih =>
  have h1 := ih (by omega) (fun j hj => h j (by omega))
  rw [take_snoc l i (by omega), rnC_snoc]
  split
  ·rename_i hc
   rcases (h i (by omega)).st hc.1 with h2 | h2
   ·exact absurd h2 hc.2
   ·omega
  ·omega
end Tr
end Go.Proofs.YtdjanbojhblijaaGreat
