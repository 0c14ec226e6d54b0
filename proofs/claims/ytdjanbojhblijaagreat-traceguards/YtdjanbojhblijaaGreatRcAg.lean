/-
 A guarded cell has no race.
-/
import Derived.Test.YtdjanbojhblijaaGreatRc9g
import Derived.Test.YtdjanbojhblijaaGreatTkBg
import Derived.Test.YtdjanbojhblijaaGreatGmg
namespace Go.Proofs.YtdjanbojhblijaaGreat
open Go.RowKit
set_option linter.unusedVariables false
set_option linter.unusedSimpArgs false
namespace LW
open Mc
theorem rcp_who {s : Syst} {l : List Ev} {x : Int × Int} (h : RcP s l x) : ∃ i j : Nat, x = ((i : Int), (j : Int)) ∧ i < j ∧ j < l.length ∧ (Tr.ev l i).a = (Tr.ev l j).a ∧ (Tr.ev l i).who ≠ (Tr.ev l j).who ∧ ((Tr.ev l i).op = 13 ∨ (Tr.ev l j).op = 13) := by
 obtain ⟨i, j, e, h1, h2, h3, _, _, h6, h7⟩ := h
 exact ⟨i, j, e, h1, h2, h3, fun hw => h7 (Tr.bf_own s l i j h1 h2 hw), h6⟩
theorem gu_none {s : Syst} {l : List Ev} {cell x : Int} {L : Nat} (hg : Tr.Gd s l l.length) (hx : x ∈ guL L l cell l.length) {p : Int × Int} (h : RcP s l p) : (Tr.ev l p.1.toNat).a ≠ cell := by
 obtain ⟨i, j, e, h1, h2, h3, h4, h5, _, h7⟩ := h
 subst e
 intro hc
 have hc : (Tr.ev l i).a = cell := hc
 have hall := (List.mem_filter.1 hx).2
 rw [List.all_eq_true] at hall
 refine h7 (Tr.guarded (x := x) hg (fun q hq ho ha => ?_) (fun q hq ho ha => ?_) i j h1 h2 h4 hc h5 (by rw [← h3]; exact hc))
 ·have hq2 := hall q (List.mem_range.2 hq)
  unfold gB at hq2
  have hb : acB (Tr.ev l q) cell = true := by
   unfold acB
   simp
   exact ⟨ho, ha⟩
  rw [if_pos hb] at hq2
  exact of_decide_eq_true hq2
 ·have hq2 := hall q (List.mem_range.2 hq)
  unfold gB at hq2
  have hb : ¬ acB (Tr.ev l q) cell = true := by
   unfold acB
   simp
   intro h
   omega
  rw [if_neg hb, if_pos ⟨ho, ha⟩] at hq2
  exact of_decide_eq_true hq2
end LW
end Go.Proofs.YtdjanbojhblijaaGreat
