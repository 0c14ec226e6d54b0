/-
  What the law ParamDecodes does: Decode of the program answers as the document's, in both forms.
-/
import Derived.Test.YtomdplcmbcjkfaaDecU
import Derived.Test.YtomdplcmbcjkfaaChecksWalk
namespace Go.Proofs.Ytomdplcmbcjkfaa
open Go.RowKit
set_option linter.unusedVariables false
set_option linter.unusedSimpArgs false
namespace LW
open Words
attribute [local go_sem ↓] Go.wp_at_zero Go.wp_at_succ
theorem own_max {w : World} {B n : Nat} {a : Option Addr} {cap : Nat} {xs : List Value} (h : w.ownsRow B 5 1 (.slice a n cap) n xs) : cap ≤ maxLen := by
  rcases h.2 with ⟨e, h0⟩ | ⟨g, cap', cur, e, hg, hh, hn, hm, hc, ht⟩
  · injection e with e1 e2 e3; rw [e3]; simp
  · injection e with e1 e2 e3; rw [e3]; omega
theorem says_open {kd : Int} {x : Bool} {zs : List Int} {W w' : World} {e : Ending} (hz : Byt zs) (hl : zs.length ≤ 140737488351232) (h : DecSays kd x zs W e w') :
    ∃ a c b d, e = .returned (.tuple #[.agg (pcP (nP (dE kd x zs) (dP kd x zs)) (.slice a (nS (dE kd x zs) (saL kd zs)).length c) (.slice b (nS (dE kd x zs) (peL kd zs)).length d)), .int .i64 (dE kd x zs)]) ∧ Pa w' a c (nS (dE kd x zs) (saL kd zs)) ∧ Pa w' b d (nS (dE kd x zs) (peL kd zs)) ∧ Below W.heap.size W w' := by
  obtain ⟨u, v, rfl, ou, ov, hb⟩ := h
  have l1 : (saL kd zs).length ≤ 140737488351232 := by unfold saL; simp; omega
  have l2 : (peL kd zs).length ≤ 140737488351232 := by unfold peL; simp; omega
  obtain ⟨a, c, rfl, pa⟩ := Pa.own ou (nS_le _ _ l1) (nS_byt _ _ ((hz.drop _).take _))
  obtain ⟨b, d, rfl, pb⟩ := Pa.own ov (nS_le _ _ l2) (nS_byt _ _ ((hz.drop _).take _))
  exact ⟨a, c, b, d, rfl, pa, pb, hb⟩
end LW
end Go.Proofs.Ytomdplcmbcjkfaa
