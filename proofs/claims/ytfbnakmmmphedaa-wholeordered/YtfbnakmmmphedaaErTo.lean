/-
 Events as they lie in memory.
-/
import Derived.Test.YtfbnakmmmphedaaLw2o
import Derived.Test.YtfbnakmmmphedaaTrAo
import Derived.Test.YtfbnakmmmphedaaSyAo
set_option linter.unusedVariables false
set_option linter.unusedSimpArgs false
namespace Go.Proofs.Ytfbnakmmmphedaa
open Go.RowKit
namespace LW
open Mc
def iEv (e : Ev) : Prop:=i64 e.who ∧ i64 e.op ∧ i64 e.a ∧ i64 e.value
theorem iEv_0 : iEv Tr.e0:=⟨i64_0,i64_0,i64_0,i64_0⟩
structure EvI (W : World) (a : Option Addr) (c : Nat) (l : List Ev) : Prop where
 er : ER W a l
 ie : ∀ j,iEv (Tr.ev l j)
 lc : l.length ≤ c
 ln : c ≤ 9223372036854775807
 nn : a = none → c = 0
theorem EvI.below {w w' : World} {a : Option Addr} {c : Nat} {l : List Ev} (h : EvI w a c l) (hb : Below w.heap.size w w') : EvI w' a c l:=⟨h.er.below hb,h.ie,h.lc,h.ln,h.nn⟩
theorem EvI.get {w : World} {a : Option Addr} {c : Nat} {l : List Ev} (h : EvI w a c l) (j : Nat) (hj : j < l.length) : ∃ b off who op x va sh,a = some ⟨b,off,none⟩ ∧ Tr.ev l j = ⟨who,op,x,va,sh⟩ ∧ i64 who ∧ i64 op ∧ i64 x ∧ i64 va ∧ w.cell? ⟨b,off + j * 5,none⟩ = some (.int .i64 who) ∧ w.cell? ⟨b,off + j * 5 + 1,none⟩ = some (.int .i64 op) ∧ w.cell? ⟨b,off + j * 5 + 2,none⟩ = some (.int .i64 x) ∧ w.cell? ⟨b,off + j * 5 + 3,none⟩ = some (.int .i64 va) ∧ w.cell? ⟨b,off + j * 5 + 4,none⟩ = some (.bool sh):=by
 rcases h.er with h0 | ⟨b,off,e,hc⟩
 ·rw [h0] at hj;simp at hj
 ·obtain ⟨h1,h2,h3,h4,h5⟩:=hc j hj
  obtain ⟨i1,i2,i3,i4⟩:=h.ie j
  exact ⟨b,off,_,_,_,_,_,e,rfl,i1,i2,i3,i4,h1,h2,h3,h4,h5⟩
end LW
end Go.Proofs.Ytfbnakmmmphedaa
