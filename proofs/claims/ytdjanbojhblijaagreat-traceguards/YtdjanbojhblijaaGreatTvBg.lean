/-
 The document's Valid; copies of events; the law on Valid.
-/
import Derived.Test.YtdjanbojhblijaaGreatTvAg
import Derived.Laws.AppendOwnNone
import Derived.Test.YtdjanbojhblijaaGreatArgs14g
namespace Go.Proofs.YtdjanbojhblijaaGreat
open Go.RowKit
set_option linter.unusedVariables false
set_option linter.unusedSimpArgs false
namespace LW
open Mc
theorem evinfo : (Tryz.prog.info? 35).map (fun i => (i.zero, i.size, i.bytes)) = some (some (.agg #[.int .i64 0, .int .i64 0, .int .i64 0, .int .i64 0, .bool false]), 5, 40) := by kernel_rfl
theorem er_own {w : World} {B : Nat} {v : Value} {l : List Ev} (h : w.ownsRow B 35 5 v l.length (evC l)) : ∃ a c, v = .slice a l.length c ∧ ER w a l ∧ l.length ≤ c ∧ c ≤ 9223372036854775807 ∧ (a = none → c = 0) := by
 rcases h.2 with ⟨rfl, h0⟩ | ⟨g, cap, cur, rfl, _, _, hn, hm, _⟩
 ·exact ⟨none, 0, by rw [h0], .inl (List.length_eq_zero_iff.1 h0), by omega, by omega, fun _ => rfl⟩
 ·refine ⟨_, cap, rfl, ?_, hn, by simpa [maxLen] using hm, fun h => by cases h⟩
  rcases Nat.eq_zero_or_pos l.length with h0 | h0
  ·exact .inl (List.length_eq_zero_iff.1 h0)
  ·refine .inr ⟨g, 0, rfl, fun j hj => ?_⟩
   have hr := own_rdA h rfl h0
   have hg := fun r hr => flC_get 5 evV ⟨0, 0, 0, 0, false⟩ l j r hj hr
   simp only [Nat.zero_add]
   exact ⟨hr _ _ (hg 0 (by omega)), hr _ _ (hg 1 (by omega)), hr _ _ (hg 2 (by omega)), hr _ _ (hg 3 (by omega)), hr _ _ (hg 4 (by omega))⟩
end LW
end Go.Proofs.YtdjanbojhblijaaGreat
