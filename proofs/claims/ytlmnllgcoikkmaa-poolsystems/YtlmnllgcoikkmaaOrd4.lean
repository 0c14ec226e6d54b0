/-
  Regions that draw their order: what stands at every picked order, by an invariant; operations that make memory of their own, in whatever order.
-/
import Derived.Test.YtlmnllgcoikkmaaOrder
import Derived.Below
namespace Go.Proofs.Ytlmnllgcoikkmaa
open Go Go.RowKit
set_option linter.unusedVariables false
namespace RG
section
variable {P : Program} {ops : Array Oper} {Q : Exit → Act → World → Prop} {md : Region.Mode} {S T : World → Prop} {late : List Nat}
/-- How many have not come up. -/
def cnt (l : Array Bool) : Nat := (l.toList.filter (fun b => !b)).length
theorem cntL_set : ∀ (x : List Bool) (i : Nat), x[i]?.getD true = false → ((x.set i true).filter (fun b => !b)).length + 1 = (x.filter (fun b => !b)).length
  | [], i, h => by simp at h
  | b :: x, 0, h => by simp at h; subst h; simp
  | b :: x, i + 1, h => by
    have := cntL_set x i (by simpa using h)
    cases b <;> simp [List.set] <;> omega
theorem cnt_set {l : Array Bool} {i : Nat} (h : l.getD i true = false) : cnt (l.setIfInBounds i true) + 1 = cnt l := by
  unfold cnt
  rw [Array.toList_setIfInBounds]
  exact cntL_set _ _ (by simpa using h)
theorem wpL_inv (I : Array Bool → Act → World → Prop) (fin : Array Bool) (fuel : Nat)
    (hI : ∀ l a w, I l a w → l = fin ∨ (cnt fin < cnt l ∧ Region.ready md ops l ≠ []))
    (hs : ∀ l a w, I l a w → l ≠ fin → ∀ i ∈ Region.ready md ops l, wpOp P ops Q i (fun a' w' => (T w' ∧ (noLate late (l.setIfInBounds i true) = true → S w')) ∧ I (l.setIfInBounds i true) a' w') a w)
    (he : ∀ a w, I fin a w → wpL P md ops Q S T late fuel fin a w) :
    ∀ (n : Nat) (l : Array Bool) (a : Act) (w : World), I l a w → cnt l = n + cnt fin → wpL P md ops Q S T late (n + fuel) l a w := by
  intro n
  induction n with
  | zero =>
    intro l a w h hc
    rcases hI l a w h with rfl | h'
    · rw [Nat.zero_add]; exact he a w h
    · omega
  | succ n ih =>
    intro l a w h hc
    rcases hI l a w h with rfl | h'
    · omega
    · rw [show n + 1 + fuel = (n + fuel) + 1 by omega]
      refine ⟨fun h0 => absurd h0 h'.2, fun i hi => wpOp_mono (fun a' w' h2 => ⟨h2.1, ih _ a' w' h2.2 ?_⟩) (hs l a w h (fun e => by subst e; omega) i hi)⟩
      have := cnt_set (mem_ready.1 hi).1
      omega
theorem wpOp_of {i : Nat} {o : Oper} {K : Act → World → Prop} {a : Act} {w : World} (ho : ops[i]? = some o) (hg : o.guard = none) (h : o.wp P a w K Q) : wpOp P ops Q i K a w := by
  unfold wpOp
  simp only [ho, Region.wanted, hg, if_true]
  exact .inl h
theorem after_of {i : Nat} {o : Oper} {l : Array Bool} (ho : ops[i]? = some o) (h : i ∈ Region.ready md ops l) : ∀ e ∈ o.after, Region.binds md e = true → l.getD e.on false = true := by
  intro e he hb
  obtain ⟨_, o', ho', hall⟩ := mem_ready.1 h
  rw [ho] at ho'
  cases ho'
  simpa using hall e he hb
/-- A table of values with one more. -/
def upd (V : Nat → Value) (i : Nat) (v : Value) : Nat → Value := fun j => if j = i then v else V j
theorem upd_self (V : Nat → Value) (i : Nat) (v : Value) : upd V i v i = v := by simp [upd]
theorem upd_ne (V : Nat → Value) {i j : Nat} (v : Value) (h : j ≠ i) : upd V i v j = V j := by simp [upd, h]
/-- What stands in the place of number 'j'. -/
def slo (l : Array Bool) (V : Nat → Value) (z : Value) (j : Nat) : Value := if l.getD j false then V j else z
theorem slo_self {l : Array Bool} {V : Nat → Value} {z v : Value} {i : Nat} (h : i < l.size) : slo (l.setIfInBounds i true) (upd V i v) z i = v := by
  simp [slo, upd, h]
theorem slo_ne {l : Array Bool} {V : Nat → Value} {z v : Value} {i j : Nat} (h : j ≠ i) : slo (l.setIfInBounds i true) (upd V i v) z j = slo l V z j := by
  unfold slo
  rw [getD_set_ne false (Ne.symm h), upd_ne V v h]
theorem slo_on {l : Array Bool} {V : Nat → Value} {z : Value} {i : Nat} (h : l.getD i false = true) : slo l V z i = V i := by simp [slo, h]
/-- Is the list of states closed? -/
def closed (md : Region.Mode) (ops : Array Oper) (late C : List Nat) (fin : Array Bool) (L : List (Array Bool)) : Bool :=
  L.all fun l => l == fin || (decide (cnt fin < cnt l) && !(Region.ready md ops l).isEmpty && (Region.ready md ops l).all fun i => C.contains i && L.contains (l.setIfInBounds i true))
/-- All states between: any of C come up. -/
def states : List Nat → Array Bool → List (Array Bool)
  | [], l => [l]
  | i :: C, l => states C l ++ states C (l.setIfInBounds i true)
/-- OPERATIONS THAT MAKE MEMORY OF THEIR OWN, in whatever order. -/
theorem wpL_makers (C : List Nat) (L : List (Array Bool)) (fin : Array Bool) (fr : Array Bool → (Nat → Value) → Act) (Pr : Nat → Value → World → Prop) (w0 : World) (fuel : Nat)
    (hcl : closed md ops late C fin L = true)
    (hT : ∀ w, Below w0.heap.size w0 w → T w) (hS : ∀ w, Below w0.heap.size w0 w → S w)
    (hP : ∀ i v w w', Pr i v w → Below w.heap.size w w' → Pr i v w')
    (hop : ∀ l ∈ L, ∀ V w, Below w0.heap.size w0 w → (∀ j ∈ C, l.getD j false = true → Pr j (V j) w) → ∀ i ∈ C, i ∈ Region.ready md ops l →
      ∀ K : Act → World → Prop, (∀ v w', Below w.heap.size w w' → Pr i v w' → K (fr (l.setIfInBounds i true) (upd V i v)) w') → wpOp P ops Q i K (fr l V) w)
    (he : ∀ V w, Below w0.heap.size w0 w → (∀ j ∈ C, fin.getD j false = true → Pr j (V j) w) → wpL P md ops Q S T late fuel fin (fr fin V) w)
    {n : Nat} {l0 : Array Bool} {V0 : Nat → Value} (hl : l0 ∈ L) (hn : cnt l0 = n + cnt fin) (hz : ∀ j ∈ C, l0.getD j false = false) : wpL P md ops Q S T late (n + fuel) l0 (fr l0 V0) w0 := by
  have hcl' := List.all_eq_true.1 hcl
  refine wpL_inv (fun l a w => l ∈ L ∧ Below w0.heap.size w0 w ∧ ∃ V, a = fr l V ∧ ∀ j ∈ C, l.getD j false = true → Pr j (V j) w) fin fuel ?_ ?_ ?_ n l0 _ w0 ⟨hl, Below.refl _ _, V0, rfl, fun j hj h => by rw [hz j hj] at h; cases h⟩ hn
  · rintro l a w ⟨h1, -⟩
    have := hcl' l h1
    simp only [Bool.or_eq_true, Bool.and_eq_true, beq_iff_eq, decide_eq_true_eq, Bool.not_eq_true', List.isEmpty_eq_false_iff] at this
    rcases this with h | h
    · exact .inl h
    · exact .inr ⟨h.1.1, h.1.2⟩
  · rintro l a w ⟨h1, h2, V, rfl, h3⟩ hne i hi
    have := hcl' l h1
    simp only [Bool.or_eq_true, Bool.and_eq_true, beq_iff_eq, decide_eq_true_eq, Bool.not_eq_true', List.isEmpty_eq_false_iff] at this
    rcases this with h | h
    · exact absurd h hne
    · have h4 := List.all_eq_true.1 h.2 i hi
      simp only [Bool.and_eq_true, List.contains_iff_mem] at h4
      refine hop l h1 V w h2 h3 i h4.1 hi _ (fun v w' hb hp => ?_)
      have hb' : Below w0.heap.size w0 w' := h2.trans (hb.mono h2.size)
      refine ⟨⟨hT w' hb', fun _ => hS w' hb'⟩, h4.2, hb', upd V i v, rfl, fun j hj hlj => ?_⟩
      by_cases hji : j = i
      · subst hji; rw [upd_self]; exact hp
      · rw [upd_ne V v hji]
        rw [getD_set_ne false (Ne.symm hji)] at hlj
        exact hP _ _ _ _ (h3 j hj hlj) hb
  · rintro a w ⟨h1, h2, V, rfl, h3⟩
    exact he V w h2 h3
end
end RG
end Go.Proofs.Ytlmnllgcoikkmaa
