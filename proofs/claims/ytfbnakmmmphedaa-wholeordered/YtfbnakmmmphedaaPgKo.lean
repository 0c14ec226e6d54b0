/-
 What the program's Play gives.
-/
import Derived.Test.YtfbnakmmmphedaaPgJo
import Derived.Test.YtfbnakmmmphedaaLw3o
set_option linter.unusedVariables false
set_option linter.unusedSimpArgs false
namespace Go.Proofs.Ytfbnakmmmphedaa
open Go.RowKit
namespace LW
open Mc
theorem PPlay_of_begin : ∀ (s : Syst) (pa : Option Addr) (pc : Nat) (ra : Option Addr) (rc : Nat) (w : World),SyI w s pa ra → Mc.Ok s → Calls Try.prog 13 #[.agg #[.slice pa s.progs.length pc,.slice ra s.rooms.length rc,.int .i64 s.groups,.int .i64 s.locks,.int .i64 s.cells]] w fun e w' => ∃ gm m,e = .returned (.pointer (some ⟨gm,0,none⟩)) ∧ PM w w' gm s pa pc (Mc.first s) m ∧ m.gb = none:=fun s pa pc ra rc w hs ho => by
 have h1:=ho.g1
 have h2:=ho.l1
 have h3:=ho.c1
 have:=pbegin1 s pa pc ra rc s.groups.toNat s.locks.toNat s.cells.toNat w hs ho (by omega) (by omega) (by omega)
 rw [show ((s.groups.toNat : Nat) : Int) = s.groups by omega,show ((s.locks.toNat : Nat) : Int) = s.locks by omega,show ((s.cells.toNat : Nat) : Int) = s.cells by omega] at this
 exact this
end LW
end Go.Proofs.Ytfbnakmmmphedaa
