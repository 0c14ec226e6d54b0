/-
 Regions that draw their order: two operations that may come up.
-/
import Derived.Test.YtfbnakmmmphedaaOrdero
set_option linter.unusedVariables false
set_option linter.unusedSimpArgs false
namespace Go.Proofs.Ytfbnakmmmphedaa
open Go
namespace RG
section
variable {P : Program} {ops : Array Oper} {Q : Exit → Act → World → Prop} {md : Region.Mode} {S T : World → Prop} {late : List Nat}
theorem wpL_pair {i j : Nat} {o p : Oper} {fuel : Nat} {listed : Array Bool} {a : Act} {w : World} (hr : Region.ready md ops listed = [i,j]) (ho : ops[i]? = some o) (hp : ops[j]? = some p) (hg : o.guard = none) (hg' : p.guard = none)
  (h1 : ∀ K : Act → World → Prop,(∀ a' w',T w' → (noLate late (listed.setIfInBounds i true) = true → S w') → wpL P md ops Q S T late fuel (listed.setIfInBounds i true) a' w' → K a' w') → o.wp P a w K Q)
  (h2 : ∀ K : Act → World → Prop,(∀ a' w',T w' → (noLate late (listed.setIfInBounds j true) = true → S w') → wpL P md ops Q S T late fuel (listed.setIfInBounds j true) a' w' → K a' w') → p.wp P a w K Q) : wpL P md ops Q S T late (fuel + 1) listed a w:=by
 refine ⟨fun h0 => (by rw [hr] at h0;cases h0),?_⟩
 rw [hr]
 intro k hk
 simp only [List.mem_cons,List.not_mem_nil,or_false] at hk
 rcases hk with rfl | rfl
 ·unfold wpOp
  simp only [ho,Region.wanted,hg,if_true]
  exact .inl (h1 _ fun _ _ hT hS hW => ⟨⟨hT,hS⟩,hW⟩)
 ·unfold wpOp
  simp only [hp,Region.wanted,hg',if_true]
  exact .inl (h2 _ fun _ _ hT hS hW => ⟨⟨hT,hS⟩,hW⟩)
end
end RG
end Go.Proofs.Ytfbnakmmmphedaa
