/-
 How a system and lists of numbers among a law's arguments are opened.
-/
import Derived.Test.YthgmmggpclmagaaRows
import Derived.Test.YthgmmggpclmagaaSyA
import Derived.Deep.Slices
import Derived.SizedLaws
import Derived.ProofKit
import Derived.OpenShut
import Derived.ChangeOld
namespace Go.Proofs.Ythgmmggpclmagaa
open Go.ChangeShapes Go.WideShapes Go.ChangeAt Go.RowKit Go.Deep
set_option linter.unusedVariables false
set_option linter.unusedSimpArgs false
namespace LW
open Mc
/-- Numbers of an instruction are numbers. -/
def iIns (i : Ins) : Prop := i64 i.op ∧ i64 i.a ∧ i64 i.b ∧ i64 i.c
/-- What is known of a system that is handed in. -/
structure SyI (W : World) (s : Syst) (pa ra : Option Addr) : Prop where
 sm : SM W s pa ra
 pn : s.progs.length ≤ 9223372036854775807
 rn : s.rooms.length ≤ 9223372036854775807
 pl : ∀ p, (s.progs.getD p []).length ≤ 9223372036854775807
 ni : ∀ p j, iIns ((s.progs.getD p []).getD j i0)
theorem SyI.nm {w : World} {s : Syst} {pa ra : Option Addr} (h : SyI w s pa ra) : Nm s := fun p j => (h.ni p j).2.2.1
theorem SyI.below {w w' : World} {s : Syst} {pa ra : Option Addr} (h : SyI w s pa ra) (hb : Below w.heap.size w w') : SyI w' s pa ra := ⟨h.sm.below hb, h.pn, h.rn, h.pl, h.ni⟩
/-- What is known of a list of numbers that is handed in. -/
structure PkI (W : World) (a : Option Addr) (c : Nat) (xs : List Int) : Prop where
 nr : NR W a xs
 i6 : ∀ j, i64 (xs.getD j 0)
 lc : xs.length ≤ c
 nn : a = none → c = 0
 ln : xs.length ≤ 17592186043904
theorem PkI.below {w w' : World} {a : Option Addr} {c : Nat} {xs : List Int} (h : PkI w a c xs) (hb : Below w.heap.size w w') : PkI w' a c xs := ⟨h.nr.below hb, h.i6, h.lc, h.nn, h.ln⟩
end LW
end Go.Proofs.Ythgmmggpclmagaa
