/-
  SysM, SysR, SysV in one.
-/
import Derived.Test.YtfbnakmmmphedaaRunso
import Derived.Test.YtfbnakmmmphedaaBsAo
import Derived.Test.YtfbnakmmmphedaaOrdero
import Derived.Laws.Rows
set_option linter.unusedVariables false
set_option linter.unusedSimpArgs false
namespace Go.Proofs.Ytfbnakmmmphedaa
open Go.RowKit
namespace LW
open Mc
def IR (W : World) (a : Option Addr) (l : List Ins) : Prop:=l = [] ∨ ∃ b off,a = some ⟨b,off,none⟩ ∧ ∀ j,j < l.length → W.cell? ⟨b,off + j * 4,none⟩ = some (.int .i64 (l.getD j i0).op) ∧ W.cell? ⟨b,off + j * 4 + 1,none⟩ = some (.int .i64 (l.getD j i0).a) ∧ W.cell? ⟨b,off + j * 4 + 2,none⟩ = some (.int .i64 (l.getD j i0).b) ∧ W.cell? ⟨b,off + j * 4 + 3,none⟩ = some (.int .i64 (l.getD j i0).c)
theorem IR.below {w w' : World} {a : Option Addr} {l : List Ins} (h : IR w a l) (hb : Below w.heap.size w w') : IR w' a l:=by
 rcases h with h | ⟨b,off,rfl,hc⟩
 ·exact .inl h
 ·refine .inr ⟨b,off,rfl,fun j hj => ?_⟩
  obtain ⟨h1,h2,h3,h4⟩:=hc j hj
  exact ⟨by rw [hb.cell (lt_of_cell h1)];exact h1,by rw [hb.cell (lt_of_cell h2)];exact h2,by rw [hb.cell (lt_of_cell h3)];exact h3,by rw [hb.cell (lt_of_cell h4)];exact h4⟩
def PR (W : World) (a : Option Addr) (ps : List (List Ins)) : Prop:=ps = [] ∨ ∃ b off,a = some ⟨b,off,none⟩ ∧ ∀ p,p < ps.length → ∃ A K,W.cell? ⟨b,off + p,none⟩ = some (.slice A (ps.getD p []).length K) ∧ IR W A (ps.getD p [])
theorem PR.below {w w' : World} {a : Option Addr} {ps : List (List Ins)} (h : PR w a ps) (hb : Below w.heap.size w w') : PR w' a ps:=by
 rcases h with h | ⟨b,off,rfl,hc⟩
 ·exact .inl h
 ·refine .inr ⟨b,off,rfl,fun p hp => ?_⟩
  obtain ⟨A,K,h1,h2⟩:=hc p hp
  exact ⟨A,K,by rw [hb.cell (lt_of_cell h1)];exact h1,h2.below hb⟩
def NR (W : World) (a : Option Addr) (xs : List Int) : Prop:=xs = [] ∨ ∃ b off,a = some ⟨b,off,none⟩ ∧ ∀ j,j < xs.length → W.cell? ⟨b,off + j,none⟩ = some (.int .i64 (xs.getD j 0))
theorem NR.below {w w' : World} {a : Option Addr} {xs : List Int} (h : NR w a xs) (hb : Below w.heap.size w w') : NR w' a xs:=by
 rcases h with h | ⟨b,off,rfl,hc⟩
 ·exact .inl h
 ·exact .inr ⟨b,off,rfl,fun j hj => by rw [hb.cell (lt_of_cell (hc j hj))];exact hc j hj⟩
def syC (s : Syst) (pa : Option Addr) (pc : Nat) (ra : Option Addr) (rc : Nat) : Array Value:=#[.slice pa s.progs.length pc,.slice ra s.rooms.length rc,.int .i64 s.groups,.int .i64 s.locks,.int .i64 s.cells]
structure SM (W : World) (s : Syst) (pa ra : Option Addr) : Prop where
 pr : PR W pa s.progs
 rm : NR W ra s.rooms
theorem SM.below {w w' : World} {s : Syst} {pa ra : Option Addr} (h : SM w s pa ra) (hb : Below w.heap.size w w') : SM w' s pa ra:=⟨h.pr.below hb,h.rm.below hb⟩
theorem cellsY5 {w : World} {b : Nat} {t : TypeId} {v0 v1 v2 v3 v4 : Value} (h : w.heap[b]? = some (.cells #[v0,v1,v2,v3,v4] t (0,0))) : w.cell? ⟨b,0,none⟩ = some v0 ∧ w.cell? ⟨b,1,none⟩ = some v1 ∧ w.cell? ⟨b,2,none⟩ = some v2 ∧ w.cell? ⟨b,3,none⟩ = some v3 ∧ w.cell? ⟨b,4,none⟩ = some v4:=by
 simp [World.cell?,h]
theorem cellsY4 {w : World} {b : Nat} {t : TypeId} {v0 v1 v2 v3 : Value} (h : w.heap[b]? = some (.cells #[v0,v1,v2,v3] t (0,0))) : w.cell? ⟨b,0,none⟩ = some v0 ∧ w.cell? ⟨b,1,none⟩ = some v1 ∧ w.cell? ⟨b,2,none⟩ = some v2 ∧ w.cell? ⟨b,3,none⟩ = some v3:=by
 simp [World.cell?,h]
end LW
end Go.Proofs.Ytfbnakmmmphedaa
namespace Go.Proofs.Ytfbnakmmmphedaa
open Go.RowKit
namespace LW
open Mc
theorem cells3R {w : World} {b : Nat} {t : TypeId} {v0 v1 v2 : Value} (h : w.heap[b]? = some (.cells #[v0,v1,v2] t (0,0))) : w.cell? ⟨b,0,none⟩ = some v0 ∧ w.cell? ⟨b,1,none⟩ = some v1 ∧ w.cell? ⟨b,2,none⟩ = some v2:=by
 simp [World.cell?,h]
def RiP (R : Prop) (w : World) : Ending → World → Prop:=fun e w' => ∃ x : Bool,e = .returned (.bool x) ∧ (x = true ↔ R) ∧ Below w.heap.size w w'
end LW
end Go.Proofs.Ytfbnakmmmphedaa
namespace Go.Proofs.Ytfbnakmmmphedaa
open Go.RowKit
namespace LW
open Mc
theorem keepC {V W : World} (hb : Below V.heap.size V W) {p o : Nat} {u : Value} (h : V.cell? ⟨p,o,none⟩ = some u) : W.cell? ⟨p,o,none⟩ = some u:=by
 rw [hb.cell (lt_of_cell h)];exact h
end LW
end Go.Proofs.Ytfbnakmmmphedaa
