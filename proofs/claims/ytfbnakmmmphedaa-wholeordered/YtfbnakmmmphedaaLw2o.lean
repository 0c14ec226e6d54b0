/-
 When lists and runs are alike.
-/
import Derived.Test.YtfbnakmmmphedaaLw1o
set_option linter.unusedVariables false
set_option linter.unusedSimpArgs false
namespace Go.Proofs.Ytfbnakmmmphedaa
open Go.RowKit
namespace LW
open Mc
def ER (W : World) (a : Option Addr) (l : List Ev) : Prop:=l = [] ∨ ∃ b off,a = some ⟨b,off,none⟩ ∧ ∀ j,j < l.length → W.cell? ⟨b,off + j * 5,none⟩ = some (.int .i64 (l.getD j ⟨0,0,0,0,false⟩).who) ∧ W.cell? ⟨b,off + j * 5 + 1,none⟩ = some (.int .i64 (l.getD j ⟨0,0,0,0,false⟩).op) ∧ W.cell? ⟨b,off + j * 5 + 2,none⟩ = some (.int .i64 (l.getD j ⟨0,0,0,0,false⟩).a) ∧ W.cell? ⟨b,off + j * 5 + 3,none⟩ = some (.int .i64 (l.getD j ⟨0,0,0,0,false⟩).value) ∧ W.cell? ⟨b,off + j * 5 + 4,none⟩ = some (.bool (l.getD j ⟨0,0,0,0,false⟩).shut)
theorem ER.below {w w' : World} {a : Option Addr} {l : List Ev} (h : ER w a l) (hb : Below w.heap.size w w') : ER w' a l:=by
 rcases h with h | ⟨b,off,rfl,hc⟩
 ·exact .inl h
 ·refine .inr ⟨b,off,rfl,fun j hj => ?_⟩
  obtain ⟨h1,h2,h3,h4,h5⟩:=hc j hj
  exact ⟨keepC hb h1,keepC hb h2,keepC hb h3,keepC hb h4,keepC hb h5⟩
def RunL (W : World) (r : Int × Int × St) (cs : Array Value) : Prop:=∃ ea ec ca cc,cs = #[.int .i64 r.1,.int .i64 r.2.1,.slice ea r.2.2.evs.length ec,.int .i64 (r.2.2.rns.length : Int),.slice ca r.2.2.cells.length cc] ∧ ER W ea r.2.2.evs ∧ NR W ca r.2.2.cells
theorem RunL.below {w w' : World} {r : Int × Int × St} {cs : Array Value} (h : RunL w r cs) (hb : Below w.heap.size w w') : RunL w' r cs:=by
 obtain ⟨ea,ec,ca,cc,e,h1,h2⟩:=h
 exact ⟨ea,ec,ca,cc,e,h1.below hb,h2.below hb⟩
end LW
end Go.Proofs.Ytfbnakmmmphedaa
