/-
  DERIVED. GIVEN WITH THE SEED: THE CARDS: each row of YtbinccfmhaefaaaGreatDoorRows.lean that lists a variable, with what it lists TIED to the program's text (the seventh form; the later family's looks); each row that meets fmt, with fmt's text TOLD by the authors' own Lean function (tested against real Go, not proved from fmt's source: count such statements apart). THE CARD IS WHAT COUNTS. Prove the row's statement (the work); the ties are given (YtbinccfmhaefaaaGreatDoorTie.lean); close each card by the builder's one call (the guide's Derived/Test/ToyasCard.lean, 'card_holds'). Laid BY PROGRAM, IN A SANDBOX (cutbox-door.mjs). By AI agents, Wed Nov 11 2026. No macro, syntax, notation, axiom, sorry.
-/
import Derived.Test.YtbinccfmhaefaaaGreatDoorRows
import GoSem.ClaimSeven
namespace Go.Proofs.YtbinccfmhaefaaaGreatDoor
namespace Rows

/-- THE TIED CARD OF 'quernlaw17.CrewNames'. -/
def crewNamesCard : Claim7 := { stood := { row := crewNamesRow, standIns := [], harness := (true, "0ff301d4215fd142081bf6d2515f19ce429414bf89336e5604420105ad645cb3"), looks := false }, kinds := [], alts := [], laidByText := true, laidKinds := [.data], laidTests := true, laidLooks := .later }
def CrewNamesCardSaid : Prop := Claim7.holds Tryz.pinned (.plain (OpenSpec.ofChange crewNamesSpec)) crewNamesCard

/-- THE SECOND FORM's CARD OF 'quernlaw17.CrewNames'. -/
def crewNamesUptoCard : Claim7 := { stood := { row := crewNamesUptoRow, standIns := [], harness := (true, "0ff301d4215fd142081bf6d2515f19ce429414bf89336e5604420105ad645cb3"), looks := false }, kinds := [], alts := [], laidByText := true, laidKinds := [.data], laidTests := true, laidLooks := .later }
def CrewNamesUptoCardSaid : Prop := Claim7.holds Tryz.pinned (.plain (OpenSpec.upto crewNamesSpec)) crewNamesUptoCard
end Rows
end Go.Proofs.YtbinccfmhaefaaaGreatDoor
