/-
  The machine of layer 13, a step at a time: what each operation makes of a state, in plain words; sums over runners.
-/
import Derived.Test.YtghpfhoajcgghaaGood
namespace Go.Proofs.Ytghpfhoajcgghaa
open Go
set_option linter.unusedVariables false
set_option linter.unusedSimpArgs false
namespace Mc
namespace PQ
/-- A runner behind its step. -/
def nx (s : Syst) (P X : Int) (R : List Int) : Rn := ⟨P, X, R, decide (((pg s P).length : Int) ≤ X)⟩
theorem on_set {s : Syst} {l : List Rn} {k : Nat} (hk : k < l.length) (P X : Int) (R : List Int) : on s (l.set k ⟨P, X, R, false⟩) k = l.set k (nx s P (X + 1) R) := by
  unfold on nx
  rw [getD_set, if_pos ⟨rfl, hk⟩, List.set_set]
  simp
theorem on_id {s : Syst} {l : List Rn} {k : Nat} {P X : Int} {R : List Int} (h : l.getD k r0 = ⟨P, X, R, false⟩) : on s l k = l.set k (nx s P (X + 1) R) := by
  unfold on nx
  rw [h]
  simp
theorem stepOf {s : Syst} {t : St} {k : Nat} {x v : Int} {sh : Bool} {T : St} (ha : act s t k = ⟨x, v, sh, 0, T⟩) : bad s t k = 0 ∧ step s t k = ⟨on s T.rns k, T.held, T.shut, T.locked, T.groups, T.cells, t.evs ++ [ev s t k]⟩ := by
  have hb : bad s t k = 0 := by unfold bad; rw [ha]
  refine ⟨hb, ?_⟩
  unfold step
  rw [if_neg (by rw [hb]; simp), ha]
theorem step1 {s : Syst} {t : St} {k : Nat} {P X : Int} {R : List Int} {A B C : Int} (hk : k < t.rns.length) (hr : rn t k = ⟨P, X, R, false⟩) (hi : ins s t k = ⟨1, A, B, C⟩) : bad s t k = 0 ∧ step s t k = ⟨t.rns.set k (nx s P (X + 1) (R.set A.toNat B)), t.held, t.shut, t.locked, t.groups, t.cells, t.evs ++ [ev s t k]⟩ := by
  have ha : act s t k = ⟨0, 0, false, 0, { t with rns := t.rns.set k ⟨P, X, R.set A.toNat B, false⟩ }⟩ := by simp [act, own, setR, hi, hr]
  have := stepOf ha
  dsimp only at this
  rw [on_set hk] at this
  exact this
theorem step2 {s : Syst} {t : St} {k : Nat} {P X : Int} {R : List Int} {A B C : Int} (hk : k < t.rns.length) (hr : rn t k = ⟨P, X, R, false⟩) (hi : ins s t k = ⟨2, A, B, C⟩) : bad s t k = 0 ∧ step s t k = ⟨t.rns.set k (nx s P (X + 1) (R.set A.toNat (IntKind.i64.wrap (R.getD A.toNat 0 + R.getD B.toNat 0)))), t.held, t.shut, t.locked, t.groups, t.cells, t.evs ++ [ev s t k]⟩ := by
  have ha : act s t k = ⟨0, 0, false, 0, { t with rns := t.rns.set k ⟨P, X, R.set A.toNat (IntKind.i64.wrap (R.getD A.toNat 0 + R.getD B.toNat 0)), false⟩ }⟩ := by simp [act, own, setR, hi, hr, reg]
  have := stepOf ha
  dsimp only at this
  rw [on_set hk] at this
  exact this
theorem step3y {s : Syst} {t : St} {k : Nat} {P X : Int} {R : List Int} {A B C : Int} (hk : k < t.rns.length) (hr : rn t k = ⟨P, X, R, false⟩) (hi : ins s t k = ⟨3, A, B, C⟩) (hl : R.getD A.toNat 0 < R.getD B.toNat 0) : bad s t k = 0 ∧ step s t k = ⟨t.rns.set k (nx s P C R), t.held, t.shut, t.locked, t.groups, t.cells, t.evs ++ [ev s t k]⟩ := by
  have ha : act s t k = ⟨0, 0, false, 0, { t with rns := t.rns.set k ⟨P, C - 1, R, false⟩ }⟩ := by
    have h2 : reg t k A < reg t k B := by unfold reg; rw [hr]; exact hl
    simp only [act, own, setP, hi, hr]
    simp [h2]
  have := stepOf ha
  dsimp only at this
  rw [on_set hk, Int.sub_add_cancel] at this
  exact this
theorem step3n {s : Syst} {t : St} {k : Nat} {P X : Int} {R : List Int} {A B C : Int} (hk : k < t.rns.length) (hr : rn t k = ⟨P, X, R, false⟩) (hi : ins s t k = ⟨3, A, B, C⟩) (hl : ¬ R.getD A.toNat 0 < R.getD B.toNat 0) : bad s t k = 0 ∧ step s t k = ⟨t.rns.set k (nx s P (X + 1) R), t.held, t.shut, t.locked, t.groups, t.cells, t.evs ++ [ev s t k]⟩ := by
  have ha : act s t k = ⟨0, 0, false, 0, t⟩ := by
    have h2 : ¬ reg t k A < reg t k B := by unfold reg; rw [hr]; exact hl
    simp only [act, own, setP, hi, hr]
    simp [h2]
  have := stepOf ha
  rw [on_id hr] at this
  exact this
theorem step4 {s : Syst} {t : St} {k : Nat} {P X : Int} {R : List Int} {A B C : Int} (hk : k < t.rns.length) (hr : rn t k = ⟨P, X, R, false⟩) (hi : ins s t k = ⟨4, A, B, C⟩) : bad s t k = 0 ∧ step s t k = ⟨t.rns.set k (nx s P C R), t.held, t.shut, t.locked, t.groups, t.cells, t.evs ++ [ev s t k]⟩ := by
  have ha : act s t k = ⟨0, 0, false, 0, { t with rns := t.rns.set k ⟨P, C - 1, R, false⟩ }⟩ := by simp [act, own, setP, hi, hr]
  have := stepOf ha
  dsimp only at this
  rw [on_set hk, Int.sub_add_cancel] at this
  exact this
theorem step16 {s : Syst} {t : St} {k : Nat} {P X : Int} {R : List Int} {A B C : Int} (hk : k < t.rns.length) (hr : rn t k = ⟨P, X, R, false⟩) (hi : ins s t k = ⟨16, A, B, C⟩) : bad s t k = 0 ∧ step s t k = ⟨t.rns.set k ⟨P, X + 1, R, true⟩, t.held, t.shut, t.locked, t.groups, t.cells, t.evs ++ [ev s t k]⟩ := by
  have ha : act s t k = ⟨0, 0, false, 0, { t with rns := t.rns.set k ⟨P, X, R, true⟩ }⟩ := by simp [act, own, hi, hr]
  have := stepOf ha
  dsimp only at this
  have h2 : on s (t.rns.set k ⟨P, X, R, true⟩) k = t.rns.set k ⟨P, X + 1, R, true⟩ := by
    unfold on
    rw [getD_set, if_pos ⟨rfl, hk⟩, List.set_set]
    simp
  rw [h2] at this
  exact this
theorem step5 {s : Syst} {t : St} {k : Nat} {P X : Int} {R : List Int} {A B C : Int} (hk : k < t.rns.length) (hr : rn t k = ⟨P, X, R, false⟩) (hi : ins s t k = ⟨5, A, B, C⟩) (hs : t.shut.getD A.toNat false = false) : bad s t k = 0 ∧ step s t k = ⟨t.rns.set k (nx s P (X + 1) R), t.held.set A.toNat (t.held.getD A.toNat [] ++ [R.getD B.toNat 0]), t.shut, t.locked, t.groups, t.cells, t.evs ++ [ev s t k]⟩ := by
  have ha : act s t k = ⟨A, R.getD B.toNat 0, false, 0, { t with held := t.held.set A.toNat (t.held.getD A.toNat [] ++ [R.getD B.toNat 0]) }⟩ := by
    have h2 : reg t k B = R.getD B.toNat 0 := by unfold reg; rw [hr]
    simp only [act, chan, hi, hs, h2]
    simp
  have := stepOf ha
  dsimp only at this
  rw [on_id hr] at this
  exact this
theorem step6e {s : Syst} {t : St} {k : Nat} {P X : Int} {R : List Int} {A B C : Int} (hk : k < t.rns.length) (hr : rn t k = ⟨P, X, R, false⟩) (hi : ins s t k = ⟨6, A, B, C⟩) (hs : t.held.getD A.toNat [] = []) : bad s t k = 0 ∧ step s t k = ⟨t.rns.set k (nx s P C R), t.held, t.shut, t.locked, t.groups, t.cells, t.evs ++ [ev s t k]⟩ := by
  have ha : ∃ v, act s t k = ⟨A, v, true, 0, { t with rns := t.rns.set k ⟨P, C - 1, R, false⟩ }⟩ := by
    simp only [act, chan, setP, hi, hs, hr]
    simp
  obtain ⟨v, ha⟩ := ha
  have := stepOf ha
  dsimp only at this
  rw [on_set hk, Int.sub_add_cancel] at this
  exact this
theorem step6 {s : Syst} {t : St} {k : Nat} {P X : Int} {R : List Int} {A B C : Int} (hk : k < t.rns.length) (hr : rn t k = ⟨P, X, R, false⟩) (hi : ins s t k = ⟨6, A, B, C⟩) {x : Int} {xs : List Int} (hs : t.held.getD A.toNat [] = x :: xs) : bad s t k = 0 ∧ step s t k = ⟨t.rns.set k (nx s P (X + 1) (R.set B.toNat x)), t.held.set A.toNat xs, t.shut, t.locked, t.groups, t.cells, t.evs ++ [ev s t k]⟩ := by
  have ha : act s t k = ⟨A, x, false, 0, { t with held := t.held.set A.toNat xs, rns := t.rns.set k ⟨P, X, R.set B.toNat x, false⟩ }⟩ := by
    simp only [act, chan, setR, hi, hs, hr]
    simp
  have := stepOf ha
  dsimp only at this
  rw [on_set hk] at this
  exact this
theorem step7 {s : Syst} {t : St} {k : Nat} {P X : Int} {R : List Int} {A B C : Int} (hk : k < t.rns.length) (hr : rn t k = ⟨P, X, R, false⟩) (hi : ins s t k = ⟨7, A, B, C⟩) (hs : t.shut.getD A.toNat false = false) : bad s t k = 0 ∧ step s t k = ⟨t.rns.set k (nx s P (X + 1) R), t.held, t.shut.set A.toNat true, t.locked, t.groups, t.cells, t.evs ++ [ev s t k]⟩ := by
  have ha : act s t k = ⟨A, 0, false, 0, { t with shut := t.shut.set A.toNat true }⟩ := by
    simp only [act, chan, hi, hs]
    simp
  have := stepOf ha
  dsimp only at this
  rw [on_id hr] at this
  exact this
theorem step10 {s : Syst} {t : St} {k : Nat} {P X : Int} {R : List Int} {A B C : Int} (hk : k < t.rns.length) (hr : rn t k = ⟨P, X, R, false⟩) (hi : ins s t k = ⟨10, A, B, C⟩) {v : Int} (hv : IntKind.i64.wrap (t.groups.getD A.toNat 0 + B) = v) (h0 : 0 ≤ v) : bad s t k = 0 ∧ step s t k = ⟨t.rns.set k (nx s P (X + 1) R), t.held, t.shut, t.locked, t.groups.set A.toNat v, t.cells, t.evs ++ [ev s t k]⟩ := by
  have ha : act s t k = ⟨A, v, false, 0, { t with groups := t.groups.set A.toNat v }⟩ := by
    have h2 : ¬ v < 0 := by omega
    simp only [act, shar, grp, hi, hv]
    simp [h2]
  have := stepOf ha
  dsimp only at this
  rw [on_id hr] at this
  exact this
theorem step11 {s : Syst} {t : St} {k : Nat} {P X : Int} {R : List Int} {A B C : Int} (hk : k < t.rns.length) (hr : rn t k = ⟨P, X, R, false⟩) (hi : ins s t k = ⟨11, A, B, C⟩) : bad s t k = 0 ∧ step s t k = ⟨t.rns.set k (nx s P (X + 1) R), t.held, t.shut, t.locked, t.groups, t.cells, t.evs ++ [ev s t k]⟩ := by
  have ha : act s t k = ⟨A, 0, false, 0, t⟩ := by
    simp only [act, shar, hi]
    simp
  have := stepOf ha
  rw [on_id hr] at this
  exact this
theorem step12 {s : Syst} {t : St} {k : Nat} {P X : Int} {R : List Int} {A B C : Int} (hk : k < t.rns.length) (hr : rn t k = ⟨P, X, R, false⟩) (hi : ins s t k = ⟨12, A, B, C⟩) : bad s t k = 0 ∧ step s t k = ⟨t.rns.set k (nx s P (X + 1) (R.set B.toNat (t.cells.getD (cel s t k).toNat 0))), t.held, t.shut, t.locked, t.groups, t.cells, t.evs ++ [ev s t k]⟩ := by
  have ha : act s t k = ⟨cel s t k, t.cells.getD (cel s t k).toNat 0, false, 0, { t with rns := t.rns.set k ⟨P, X, R.set B.toNat (t.cells.getD (cel s t k).toNat 0), false⟩ }⟩ := by
    generalize hc : cel s t k = c
    simp only [act, shar, setR, hi, hr, hc]
    simp
  have := stepOf ha
  dsimp only at this
  rw [on_set hk] at this
  exact this
theorem step13 {s : Syst} {t : St} {k : Nat} {P X : Int} {R : List Int} {A B C : Int} (hk : k < t.rns.length) (hr : rn t k = ⟨P, X, R, false⟩) (hi : ins s t k = ⟨13, A, B, C⟩) : bad s t k = 0 ∧ step s t k = ⟨t.rns.set k (nx s P (X + 1) R), t.held, t.shut, t.locked, t.groups, t.cells.set (cel s t k).toNat (R.getD B.toNat 0), t.evs ++ [ev s t k]⟩ := by
  have ha : act s t k = ⟨cel s t k, R.getD B.toNat 0, false, 0, { t with cells := t.cells.set (cel s t k).toNat (R.getD B.toNat 0) }⟩ := by
    have h2 : reg t k B = R.getD B.toNat 0 := by unfold reg; rw [hr]
    generalize hc : cel s t k = c
    simp only [act, shar, hi, hc, h2]
    simp
  have := stepOf ha
  dsimp only at this
  rw [on_id hr] at this
  exact this
theorem step14 {s : Syst} {t : St} {k : Nat} {P X : Int} {R : List Int} {A B C : Int} (hk : k < t.rns.length) (hr : rn t k = ⟨P, X, R, false⟩) (hi : ins s t k = ⟨14, A, B, C⟩) (hl : t.rns.length < 512) : bad s t k = 0 ∧ step s t k = ⟨t.rns.set k (nx s P (X + 1) R) ++ [⟨A, 0, R, (pg s A).isEmpty⟩], t.held, t.shut, t.locked, t.groups, t.cells, t.evs ++ [ev s t k]⟩ := by
  have ha : act s t k = ⟨A, t.rns.length, false, 0, { t with rns := t.rns ++ [⟨A, 0, R, (pg s A).isEmpty⟩] }⟩ := by
    have h2 : ¬ 512 ≤ t.rns.length := by omega
    simp only [act, shar, hi, hr]
    simp [h2]
  have := stepOf ha
  dsimp only at this
  rw [on_id (P := P) (X := X) (R := R) (by rw [List.getD_eq_getElem?_getD, List.getElem?_append_left hk, ← List.getD_eq_getElem?_getD]; exact hr), List.set_append_left _ _ hk] at this
  exact this
theorem step15 {s : Syst} {t : St} {k : Nat} {P X : Int} {R : List Int} {A B C : Int} (hk : k < t.rns.length) (hr : rn t k = ⟨P, X, R, false⟩) (hi : ins s t k = ⟨15, A, B, C⟩) : bad s t k = 0 ∧ step s t k = ⟨t.rns.set k (nx s P (X + 1) R), t.held, t.shut, t.locked, t.groups, t.cells, t.evs ++ [ev s t k]⟩ := by
  have ha : ∃ v, act s t k = ⟨A, v, false, 0, t⟩ := by
    simp only [act, shar, hi]
    simp
  obtain ⟨v, ha⟩ := ha
  have := stepOf ha
  rw [on_id hr] at this
  exact this
theorem can_free {s : Syst} {t : St} {k : Nat} (he : (rn t k).ended = false) (h : (ins s t k).op ≠ 5 ∧ (ins s t k).op ≠ 6 ∧ (ins s t k).op ≠ 8 ∧ (ins s t k).op ≠ 11) : can s t k = true := by
  unfold can
  simp [he, h.1, h.2.1, h.2.2.1, h.2.2.2]
theorem can5 {s : Syst} {t : St} {k : Nat} {A B C : Int} (he : (rn t k).ended = false) (hi : ins s t k = ⟨5, A, B, C⟩) : can s t k = (t.shut.getD A.toNat false || decide (((t.held.getD A.toNat []).length : Int) < s.rooms.getD A.toNat 0)) := by
  unfold can
  rw [he, hi]
  simp
theorem can6 {s : Syst} {t : St} {k : Nat} {A B C : Int} (he : (rn t k).ended = false) (hi : ins s t k = ⟨6, A, B, C⟩) : can s t k = (t.shut.getD A.toNat false || decide (0 < (t.held.getD A.toNat []).length)) := by
  unfold can
  rw [he, hi]
  simp
theorem can11 {s : Syst} {t : St} {k : Nat} {A B C : Int} (he : (rn t k).ended = false) (hi : ins s t k = ⟨11, A, B, C⟩) : can s t k = decide (t.groups.getD A.toNat 0 = 0) := by
  unfold can
  rw [he, hi]
  simp
/-- A sum over runners. -/
def sm (f : Rn → Int) : List Rn → Int
  | [] => 0
  | r :: l => f r + sm f l
theorem sm_set (f : Rn → Int) : ∀ (l : List Rn) (k : Nat) (r : Rn), k < l.length → sm f (l.set k r) = sm f l - f (l.getD k r0) + f r
  | [], k, r, h => by simp at h
  | x :: l, 0, r, h => by simp [sm]; omega
  | x :: l, k + 1, r, h => by
    have := sm_set f l k r (by simpa using h)
    simp only [List.set_cons_succ, sm, List.getD_cons_succ]
    omega
theorem sm_app (f : Rn → Int) : ∀ (l : List Rn) (r : Rn), sm f (l ++ [r]) = sm f l + f r
  | [], r => by simp [sm]
  | x :: l, r => by
    have := sm_app f l r
    simp only [List.cons_append, sm]
    omega
theorem sm_zero (f : Rn → Int) : ∀ (l : List Rn), (∀ k, k < l.length → f (l.getD k r0) = 0) → sm f l = 0
  | [], _ => rfl
  | x :: l, h => by
    have h0 := h 0 (by simp)
    have := sm_zero f l (fun k hk => by have := h (k + 1) (by simpa using hk); simpa using this)
    simp at h0
    simp only [sm]
    omega
theorem sm_nn (f : Rn → Int) : ∀ (l : List Rn), (∀ k, k < l.length → 0 ≤ f (l.getD k r0)) → 0 ≤ sm f l
  | [], _ => Int.le_refl _
  | x :: l, h => by
    have h0 := h 0 (by simp)
    have := sm_nn f l (fun k hk => by have := h (k + 1) (by simpa using hk); simpa using this)
    simp at h0
    simp only [sm]
    omega
theorem sm_le (f : Rn → Int) (hf : ∀ r, f r ≤ 1) : ∀ (l : List Rn), sm f l ≤ l.length
  | [] => Int.le_refl _
  | x :: l => by
    have := sm_le f hf l
    have := hf x
    simp only [sm, List.length_cons]
    omega
/-- All are 0 or more: the sum is no less than one of them. -/
theorem sm_ge (f : Rn → Int) (l : List Rn) (k : Nat) (hk : k < l.length) (h : ∀ j, j < l.length → j ≠ k → 0 ≤ f (l.getD j r0)) : f (l.getD k r0) ≤ sm f l := by
  have h1 := sm_set f l k r0 hk
  have h2 : 0 ≤ sm f (l.set k r0) - f r0 + 0 := by
    have h3 : ∀ (m : List Rn) (i : Nat), i < m.length → (∀ j, j < m.length → j ≠ i → 0 ≤ f (m.getD j r0)) → f (m.getD i r0) ≤ sm f m := by
      intro m
      induction m with
      | nil => intro i hi; simp at hi
      | cons x m ih =>
        intro i hi hm
        cases i with
        | zero =>
          have := sm_nn f m (fun j hj => by have := hm (j + 1) (by simpa using hj) (by omega); simpa using this)
          simp only [sm, List.getD_cons_zero]
          omega
        | succ i =>
          have h4 := ih i (by simpa using hi) (fun j hj hne => by have := hm (j + 1) (by simpa using hj) (by omega); simpa using this)
          have h5 := hm 0 (by simp) (by omega)
          simp only [List.getD_cons_zero] at h5
          simp only [sm, List.getD_cons_succ]
          omega
    have := h3 l k hk h
    omega
  omega
/-- Two of them, all others 0 or more. -/
theorem sm_ge2 (f : Rn → Int) (l : List Rn) (i k : Nat) (hi : i < l.length) (hk : k < l.length) (hik : i ≠ k) (h : ∀ j, j < l.length → j ≠ i → j ≠ k → 0 ≤ f (l.getD j r0)) (h0 : f r0 = 0) : f (l.getD i r0) + f (l.getD k r0) ≤ sm f l := by
  have h1 := sm_set f l i r0 hi
  have h2 := sm_ge f (l.set i r0) k (by rw [List.length_set]; exact hk) (fun j hj hne => by
    rw [List.length_set] at hj
    rw [getD_set]
    by_cases hji : i = j
    · rw [if_pos ⟨hji, hi⟩, h0]; exact Int.le_refl _
    · rw [if_neg (fun hh => hji hh.1)]
      exact h j hj (fun e => hji e.symm) hne)
  rw [getD_set, if_neg (fun hh => hik hh.1)] at h2
  omega
/-- All but one are 0. -/
theorem sm_one (f : Rn → Int) (l : List Rn) (k : Nat) (hk : k < l.length) (h : ∀ j, j < l.length → j ≠ k → f (l.getD j r0) = 0) (h0 : f r0 = 0) : sm f l = f (l.getD k r0) := by
  have h1 := sm_set f l k r0 hk
  have h2 := sm_zero f (l.set k r0) (fun j hj => by
    rw [List.length_set] at hj
    rw [getD_set]
    by_cases hji : k = j
    · rw [if_pos ⟨hji, hk⟩, h0]
    · rw [if_neg (fun hh => hji hh.1)]
      exact h j hj (fun e => hji e.symm))
  omega
end PQ
end Mc
end Go.Proofs.Ytghpfhoajcgghaa
