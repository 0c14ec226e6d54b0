/-
  What a run's events tell one by one: of locks and groups, and of each channel.
-/
import Derived.Test.YtheifjakpdeiaaaRuns
namespace Go.Proofs.Ytheifjakpdeiaaa
open Go
set_option linter.unusedVariables false
set_option linter.unusedSimpArgs false
namespace Mc
def e0 : Ev := ⟨0, 0, 0, 0, false⟩
theorem lkR_states (s : Syst) : ∀ (l : List Ev) (x y : List Bool × List Int), lkR s l x = some y → ∃ X : Nat → List Bool × List Int, X 0 = x ∧ X l.length = y ∧ ∀ k, k < l.length → lk1 s false (X k) (l.getD k e0) = some (X (k + 1))
  | [], x, y, h => ⟨fun _ => x, rfl, by simpa [lkR] using h, fun k hk => by simp at hk⟩
  | v :: l, x, y, h => by
    rw [lkR] at h
    cases hv : lk1 s false x v with
    | none => rw [hv] at h; cases h
    | some z =>
      rw [hv] at h
      obtain ⟨X, h1, h2, h3⟩ := lkR_states s l z y h
      refine ⟨fun k => match k with | 0 => x | k + 1 => X k, rfl, h2, fun k hk => ?_⟩
      match k with
      | 0 => show lk1 s false x v = some (X 0); rw [h1]; exact hv
      | k + 1 => exact h3 k (by simpa using hk)
theorem chR_states (s : Syst) (c : Nat) : ∀ (l : List Ev) (x y : List Int × Bool), chR s c l x = some y → ∃ X : Nat → List Int × Bool, X 0 = x ∧ X l.length = y ∧ ∀ k, k < l.length → ch1 s c (X k) (l.getD k e0) = some (X (k + 1))
  | [], x, y, h => ⟨fun _ => x, rfl, by simpa [chR] using h, fun k hk => by simp at hk⟩
  | v :: l, x, y, h => by
    rw [chR] at h
    cases hv : ch1 s c x v with
    | none => rw [hv] at h; cases h
    | some z =>
      rw [hv] at h
      obtain ⟨X, h1, h2, h3⟩ := chR_states s c l z y h
      refine ⟨fun k => match k with | 0 => x | k + 1 => X k, rfl, h2, fun k hk => ?_⟩
      match k with
      | 0 => show ch1 s c x v = some (X 0); rw [h1]; exact hv
      | k + 1 => exact h3 k (by simpa using hk)
theorem getD_app1 (l : List Ev) (v : Ev) (k : Nat) (h : k < l.length) : (l ++ [v]).getD k e0 = l.getD k e0 := by
  rw [List.getD_eq_getElem?_getD, List.getElem?_append_left h, ← List.getD_eq_getElem?_getD]
theorem getD_app2 (l : List Ev) (v : Ev) : (l ++ [v]).getD l.length e0 = v := by
  rw [List.getD_eq_getElem?_getD, List.getElem?_append_right (Nat.le_refl _), Nat.sub_self]
  rfl
/-- Locks and groups, event by event. -/
theorem locks_fact {s : Syst} (ho : Ok s) (hn : Nm s) (picks : List Int) :
    (1 ≤ (play s picks).1 ∧ (play s picks).1 ≤ 4) ∧ ((play s picks).2.1 ≠ 0 ↔ (play s picks).1 = 3) ∧
    ∃ X : Nat → List Bool × List Int, X 0 = ((first s).locked, (first s).groups) ∧ ∀ k, k < (play s picks).2.2.evs.length → lk1 s (decide ((play s picks).1 = 3 ∧ k + 1 = (play s picks).2.2.evs.length)) (X k) ((play s picks).2.2.evs.getD k e0) = some (X (k + 1)) := by
  rcases play_told ho hn picks with ⟨h1, h2, h3, _⟩ | ⟨t1, k, ht, hg, hk, hc, hb, hl, hp⟩
  · refine ⟨by omega, ⟨fun h => absurd h1 h, fun h => by omega⟩, ?_⟩
    obtain ⟨X, x0, _, x2⟩ := lkR_states s _ _ _ h3.2
    refine ⟨X, x0, fun k hk => ?_⟩
    rw [decide_eq_false (by omega)]
    exact x2 k hk
  · rw [hp]
    refine ⟨⟨by show (1 : Int) ≤ 3; decide, by show (3 : Int) ≤ 4; decide⟩, ⟨fun _ => rfl, fun _ => hb⟩, ?_⟩
    obtain ⟨X, x0, x1, x2⟩ := lkR_states s _ _ _ ht.2
    obtain ⟨y, hy⟩ := bad_lk ho hg hk hc hb
    have he : (step s t1 k).evs = t1.evs ++ [ev s t1 k] := step_evs s t1 k
    refine ⟨fun j => if j ≤ t1.evs.length then X j else y, by simpa using x0, fun j hj => ?_⟩
    dsimp only at hj ⊢
    rw [he] at hj ⊢
    rw [List.length_append, List.length_singleton] at hj ⊢
    rcases Nat.lt_or_ge j t1.evs.length with h | h
    · rw [if_pos (by omega), if_pos (by omega), getD_app1 _ _ _ h, decide_eq_false (by omega)]
      exact x2 j h
    · obtain rfl : j = t1.evs.length := by omega
      rw [if_pos (Nat.le_refl _), if_neg (by omega), getD_app2, decide_eq_true (by simp), x1]
      exact hy
/-- A channel, event by event; the last event of a run that ends with a fault is left out. -/
theorem chans_fact {s : Syst} (ho : Ok s) (hn : Nm s) (picks : List Int) (c : Nat) (hc : c < s.rooms.length) :
    ∃ X : Nat → List Int × Bool, X 0 = ([], false) ∧ ∀ k, k < (play s picks).2.2.evs.length → ¬ ((play s picks).1 = 3 ∧ k + 1 = (play s picks).2.2.evs.length) → ch1 s c (X k) ((play s picks).2.2.evs.getD k e0) = some (X (k + 1)) := by
  rcases play_told ho hn picks with ⟨h1, h2, h3, _⟩ | ⟨t1, k, ht, hg, hk, hc', hb, hl, hp⟩
  · obtain ⟨X, x0, _, x2⟩ := chR_states s c _ _ _ (h3.1 c hc)
    exact ⟨X, x0, fun k hk _ => x2 k hk⟩
  · rw [hp]
    obtain ⟨X, x0, x1, x2⟩ := chR_states s c _ _ _ (ht.1 c hc)
    have he : (step s t1 k).evs = t1.evs ++ [ev s t1 k] := step_evs s t1 k
    refine ⟨X, x0, fun j hj hn => ?_⟩
    dsimp only at hj hn ⊢
    rw [he] at hj hn ⊢
    rw [List.length_append, List.length_singleton] at hj hn
    have h : j < t1.evs.length := by
      rcases Nat.lt_or_ge j t1.evs.length with h | h
      · exact h
      · exact absurd ⟨rfl, by omega⟩ hn
    rw [getD_app1 _ _ _ h]
    exact x2 j h
theorem lk1_len {s : Syst} {b : Bool} {x y : List Bool × List Int} {v : Ev} (h : lk1 s b x v = some y) : y.1.length = x.1.length ∧ y.2.length = x.2.length := by
  unfold lk1 at h
  repeat' split at h
  all_goals first | (cases h; done) | (injection h with h; subst h; simp)
theorem lk8 {s : Syst} {b : Bool} {x y : List Bool × List Int} {w a v : Int} {sh : Bool} (h : lk1 s b x ⟨w, 8, a, v, sh⟩ = some y) : 0 ≤ a ∧ a < s.locks ∧ x.1.getD a.toNat false = false ∧ y = (x.1.set a.toNat true, x.2) := by
  unfold lk1 at h
  dsimp only at h
  split at h
  · cases h
  · rename_i h1
    rw [if_pos rfl] at h
    split at h
    · cases h
    · rename_i h2
      injection h with h
      exact ⟨by omega, by omega, by simpa using h2, h.symm⟩
theorem lk9 {s : Syst} {b : Bool} {x y : List Bool × List Int} {w a v : Int} {sh : Bool} (h : lk1 s b x ⟨w, 9, a, v, sh⟩ = some y) : 0 ≤ a ∧ a < s.locks ∧ x.1.getD a.toNat false ≠ b ∧ y = (x.1.set a.toNat false, x.2) := by
  unfold lk1 at h
  dsimp only at h
  split at h
  · cases h
  · rename_i h1
    rw [if_neg (by decide), if_pos rfl] at h
    split at h
    · cases h
    · rename_i h2
      injection h with h
      exact ⟨by omega, by omega, h2, h.symm⟩
theorem lk10 {s : Syst} {b : Bool} {x y : List Bool × List Int} {w a v : Int} {sh : Bool} (h : lk1 s b x ⟨w, 10, a, v, sh⟩ = some y) : 0 ≤ a ∧ a < s.groups ∧ decide (v < 0) = b ∧ y = (x.1, x.2.set a.toNat v) := by
  unfold lk1 at h
  dsimp only at h
  split at h
  · cases h
  · rename_i h1
    rw [if_neg (by decide), if_neg (by decide), if_pos rfl] at h
    split at h
    · cases h
    · rename_i h2
      injection h with h
      exact ⟨by omega, by omega, by simpa using h2, h.symm⟩
theorem lk11 {s : Syst} {b : Bool} {x y : List Bool × List Int} {w a v : Int} {sh : Bool} (h : lk1 s b x ⟨w, 11, a, v, sh⟩ = some y) : 0 ≤ a ∧ a < s.groups ∧ x.2.getD a.toNat 0 = 0 ∧ y = x := by
  unfold lk1 at h
  dsimp only at h
  split at h
  · cases h
  · rename_i h1
    rw [if_neg (by decide), if_neg (by decide), if_neg (by decide), if_pos rfl] at h
    split at h
    · cases h
    · rename_i h2
      injection h with h
      exact ⟨by omega, by omega, by simpa using h2, h.symm⟩
theorem lkO {s : Syst} {b : Bool} {x y : List Bool × List Int} {w o a v : Int} {sh : Bool} (h : lk1 s b x ⟨w, o, a, v, sh⟩ = some y) (h8 : o ≠ 8) (h9 : o ≠ 9) (h10 : o ≠ 10) (h11 : o ≠ 11) : y = x := by
  unfold lk1 at h
  dsimp only at h
  rw [if_neg (by omega), if_neg h8, if_neg h9, if_neg h10, if_neg h11] at h
  injection h with h
  exact h.symm
/-- A channel, event by event; the last event of a run that ends with a fault changes nothing. -/
theorem chans_all {s : Syst} (ho : Ok s) (hn : Nm s) (picks : List Int) (c : Nat) (hc : c < s.rooms.length) :
    ∃ X : Nat → List Int × Bool, X 0 = ([], false) ∧ ∀ k, k < (play s picks).2.2.evs.length → ((play s picks).1 = 3 ∧ k + 1 = (play s picks).2.2.evs.length → X (k + 1) = X k) ∧ (¬ ((play s picks).1 = 3 ∧ k + 1 = (play s picks).2.2.evs.length) → ch1 s c (X k) ((play s picks).2.2.evs.getD k e0) = some (X (k + 1))) := by
  rcases play_told ho hn picks with ⟨h1, h2, h3, _⟩ | ⟨t1, k, ht, hg, hk, hc', hb, hl, hp⟩
  · obtain ⟨X, x0, _, x2⟩ := chR_states s c _ _ _ (h3.1 c hc)
    exact ⟨X, x0, fun k hk => ⟨fun h => by omega, fun _ => x2 k hk⟩⟩
  · rw [hp]
    obtain ⟨X, x0, x1, x2⟩ := chR_states s c _ _ _ (ht.1 c hc)
    have he : (step s t1 k).evs = t1.evs ++ [ev s t1 k] := step_evs s t1 k
    refine ⟨fun j => if j ≤ t1.evs.length then X j else X t1.evs.length, by simpa using x0, fun j hj => ?_⟩
    dsimp only at hj ⊢
    rw [he] at hj ⊢
    rw [List.length_append, List.length_singleton] at hj ⊢
    refine ⟨fun hx => ?_, fun hx => ?_⟩
    · obtain rfl : j = t1.evs.length := by omega
      rw [if_neg (by omega), if_pos (Nat.le_refl _)]
    · have h : j < t1.evs.length := by
        rcases Nat.lt_or_ge j t1.evs.length with h | h
        · exact h
        · exact absurd ⟨rfl, by omega⟩ hx
      rw [if_pos (by omega), if_pos (by omega), getD_app1 _ _ _ h]
      exact x2 j h
theorem ch5 {s : Syst} {c : Nat} {x y : List Int × Bool} {w v : Int} {sh : Bool} (h : ch1 s c x ⟨w, 5, c, v, sh⟩ = some y) : x.2 = false ∧ ((x.1.length : Int) + 1 ≤ s.rooms.getD c 0) ∧ y = (x.1 ++ [v], x.2) := by
  unfold ch1 at h
  dsimp only at h
  rw [if_neg (by simp), if_pos rfl] at h
  split at h
  · cases h
  · rename_i h1
    injection h with h
    have h2 : ¬ x.2 = true := fun e => h1 (.inl e)
    have h3 : ¬ s.rooms.getD c 0 < ((x.1 ++ [v]).length : Int) := fun e => h1 (.inr e)
    rw [List.length_append, List.length_singleton] at h3
    exact ⟨by simpa using h2, by omega, h.symm⟩
theorem ch7 {s : Syst} {c : Nat} {x y : List Int × Bool} {w v : Int} {sh : Bool} (h : ch1 s c x ⟨w, 7, c, v, sh⟩ = some y) : x.2 = false ∧ y = (x.1, true) := by
  unfold ch1 at h
  dsimp only at h
  rw [if_neg (by simp), if_neg (by decide), if_pos rfl] at h
  split at h
  · cases h
  · rename_i h1
    injection h with h
    exact ⟨by simpa using h1, h.symm⟩
theorem ch6s {s : Syst} {c : Nat} {x y : List Int × Bool} {w v : Int} (h : ch1 s c x ⟨w, 6, c, v, true⟩ = some y) : x.2 = true ∧ x.1 = [] ∧ y = x := by
  unfold ch1 at h
  dsimp only at h
  rw [if_neg (by simp), if_neg (by decide), if_neg (by decide), if_pos rfl, if_pos rfl] at h
  split at h
  · cases h
  · rename_i h1
    injection h with h
    have h2 : ¬ x.2 = false := fun e => h1 (.inl e)
    have h3 : ¬ x.1 ≠ [] := fun e => h1 (.inr e)
    exact ⟨by simpa using h2, by simpa using h3, h.symm⟩
theorem ch6 {s : Syst} {c : Nat} {x y : List Int × Bool} {w v : Int} (h : ch1 s c x ⟨w, 6, c, v, false⟩ = some y) : 0 < x.1.length ∧ x.1.getD 0 0 = v ∧ y = (x.1.tail, x.2) := by
  unfold ch1 at h
  dsimp only at h
  rw [if_neg (by simp), if_neg (by decide), if_neg (by decide), if_pos rfl, if_neg (by decide)] at h
  split at h
  · cases h
  · rename_i h1
    injection h with h
    have h2 : ¬ x.1 = [] := fun e => h1 (.inl e)
    have h3 : ¬ x.1.headD 0 ≠ v := fun e => h1 (.inr e)
    refine ⟨List.length_pos_iff.2 h2, ?_, h.symm⟩
    rw [← headD_getD]
    simpa using h3
theorem chO {s : Syst} {c : Nat} {x y : List Int × Bool} {w o a v : Int} {sh : Bool} (h : ch1 s c x ⟨w, o, a, v, sh⟩ = some y) (hx : a ≠ c ∨ (o ≠ 5 ∧ o ≠ 6 ∧ o ≠ 7)) : y = x := by
  unfold ch1 at h
  dsimp only at h
  by_cases ha : a = c
  · rcases hx with hx | ⟨h5, h6, h7⟩
    · exact absurd ha hx
    · rw [if_neg (by simpa using ha), if_neg h5, if_neg h7, if_neg h6] at h
      injection h with h
      exact h.symm
  · rw [if_pos ha] at h
    injection h with h
    exact h.symm
end Mc
end Go.Proofs.Ytheifjakpdeiaaa
