/-
 What the program's calls are asked; the laws on Valid, Play, Ready.
-/
import Derived.Test.YtfbnakmmmphedaaLw2o
import Derived.Test.YtfbnakmmmphedaaHndo
import Derived.Maps.AppendAt
import Derived.Laws.AppendOwnNone
set_option linter.unusedVariables false
set_option linter.unusedSimpArgs false
namespace Go.Proofs.Ytfbnakmmmphedaa
open Go.RowKit
namespace LW
open Mc
def s00 : St:=⟨[],[],[],[],[],[],[]⟩
theorem er_own {w : World} {B : Nat} {v : Value} {l : List Ev} (h : w.ownsRow B 39 5 v l.length (evC l)) : ∃ a c,v = .slice a l.length c ∧ ER w a l:=by
 rcases h.2 with ⟨rfl,h0⟩ | ⟨g,cap,cur,rfl,_⟩
 ·exact ⟨none,0,by rw [h0],.inl (List.length_eq_zero_iff.1 h0)⟩
 ·refine ⟨_,cap,rfl,?_⟩
  rcases Nat.eq_zero_or_pos l.length with h0 | h0
  ·exact .inl (List.length_eq_zero_iff.1 h0)
  ·refine .inr ⟨g,0,rfl,fun j hj => ?_⟩
   have hr:=own_rdA h rfl h0
   have hg:=fun r hr => flC_get 5 evV ⟨0,0,0,0,false⟩ l j r hj hr
   simp only [Nat.zero_add]
   exact ⟨hr _ _ (hg 0 (by omega)),hr _ _ (hg 1 (by omega)),hr _ _ (hg 2 (by omega)),hr _ _ (hg 3 (by omega)),hr _ _ (hg 4 (by omega))⟩
theorem nr_own {w : World} {B : Nat} {v : Value} {l : List Int} (h : w.ownsRow B 3 1 v l.length (l.map (Value.int .i64))) : ∃ a c,v = .slice a l.length c ∧ NR w a l:=by
 obtain ⟨a,c,e,h2⟩:=own_read1 0 h rfl
 refine ⟨a,c,e,?_⟩
 rcases h2 with h2 | ⟨b,e2,hc⟩
 ·exact .inl h2
 ·exact .inr ⟨b,0,e2,fun j hj => by rw [Nat.zero_add];exact hc j hj⟩
end LW
end Go.Proofs.Ytfbnakmmmphedaa
