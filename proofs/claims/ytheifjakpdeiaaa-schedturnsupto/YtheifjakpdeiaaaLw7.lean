/-
  Append of a list of numbers as one operation; the joined list.
-/
import Derived.Test.YtheifjakpdeiaaaLw4
namespace Go.Proofs.Ytheifjakpdeiaaa
open Go.RowKit
set_option linter.unusedVariables false
set_option linter.unusedSimpArgs false
namespace LW
open Mc
set_option maxRecDepth 100000 in
/-- Append of a list of numbers to a row of one's own, as one operation. -/
theorem wp_app_ints {w : World} {o : Oper} {a : Act} {K : Act → World → Prop} {Q : Exit → Act → World → Prop} (s x : Operand)
    (ho : o.op = .call { callee := .builtin .append, args := #[s, x], argTypes := #[23, 23] }) (B : Nat) (v : Value) (n : Nat) (ys : List Value) (hs : a.eval s = v) (hown : w.ownsRow B 3 1 v n ys) (b : Option Addr) (cap : Nat) (xs : List Int) (len : Nat) (hlen : xs.length = len) (hx : a.eval x = .slice b len cap)
    (hr : NR w b xs) (hn : b = none → cap = 0) (hm : n + len ≤ 17592186044416) (hB : B ≤ w.heap.size)
    (h : ∀ x' w', w'.ownsRow B 3 1 x' (n + len) (ys ++ xs.map (Value.int .i64)) → w.grownBy w' v.ownBlock → K (a.put o.dst x') w') : o.wp Try.prog a w K Q := by
  obtain ⟨i0, hi, hz0, hz1, hz2⟩ := info_parts' intinfo
  subst hlen
  cases b with
  | none =>
    obtain rfl := hn rfl
    obtain rfl : xs = [] := by rcases hr with h | ⟨b, off, h, _⟩ <;> first | exact h | cases h
    have hrun := run_append_owned_none (P := Try.prog) (w := w) B 23 o.type 3 i0 1 Try.underlying23 hi v n ys hown
    have hx' : a.eval x = .slice none 0 0 := hx
    unfold Oper.wp
    simp [execOp, ho, resolve, invoke, builtin, hs, hx', hrun, Result.andThen]
    exact h _ _ (by simpa using hown) ⟨rfl, rfl, rfl, Nat.le_refl _, fun _ _ _ => rfl⟩
  | some ad =>
    refine wp_append_own w s x 23 ho B 3 i0 (.int .i64 0) 1 8 Try.underlying23 hi hz0 hz1 hz2 rfl (by decide) v n ys hs hown ad xs.length cap (xs.map (Value.int .i64)) hx (by simp) (fun j u hj => ?_) (fun u hu => ?_) (by unfold maxLen; omega) (by omega) hB ?_
    · have hj' : j < xs.length := by
        have := (List.getElem?_eq_some_iff.1 hj).1
        simpa using this
      rcases hr with h | ⟨b, off, e, hc⟩
      · rw [h] at hj'; simp at hj'
      · injection e with e
        subst e
        rw [Addr.add_mid, hc j hj']
        rw [List.getElem?_map, List.getElem?_eq_getElem hj'] at hj
        rw [List.getD_eq_getElem?_getD, List.getElem?_eq_getElem hj']
        exact hj
    · obtain ⟨z, _, rfl⟩ := List.mem_map.1 hu
      rfl
    · intro v' w2 hown' hgrow' _
      exact h _ _ hown' hgrow'
theorem pk_join {W : World} {B : Nat} {v : Value} {a b : List Int} (h : W.ownsRow B 3 1 v (a.length + b.length) (a.map (Value.int .i64) ++ b.map (Value.int .i64))) (ha : ∀ j, i64 (a.getD j 0)) (hb : ∀ j, i64 (b.getD j 0)) (hl : a.length + b.length ≤ 17592186043904) : ∃ x c, v = .slice x (a ++ b).length c ∧ PkI W x c (a ++ b) := by
  rw [← List.map_append, ← List.length_append] at h
  obtain ⟨x, c, e, hn⟩ := nr_own h
  refine ⟨x, c, e, hn, fun j => ?_, ?_, ?_, by rw [List.length_append]; exact hl⟩
  · rcases Nat.lt_or_ge j a.length with hj | hj
    · rw [List.getD_eq_getElem?_getD, List.getElem?_append_left hj, ← List.getD_eq_getElem?_getD]; exact ha j
    · rw [List.getD_eq_getElem?_getD, List.getElem?_append_right hj, ← List.getD_eq_getElem?_getD]; exact hb _
  · rcases h.2 with ⟨e2, h0⟩ | ⟨g, cap, cur, e2, _, _, hc, _⟩
    · rw [h0]; exact Nat.zero_le _
    · rw [e] at e2
      injection e2 with _ _ e3
      rw [e3]; exact hc
  · rintro rfl
    rcases h.2 with ⟨e2, h0⟩ | ⟨g, cap, cur, e2, _⟩
    · rw [e] at e2
      injection e2 with _ _ e3
    · rw [e] at e2
      injection e2 with e3
      cases e3
end LW
end Go.Proofs.Ytheifjakpdeiaaa
