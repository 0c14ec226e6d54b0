/-
  DERIVED. GIVEN WITH THE SEED: THE CARDS: each row of YteakoajkmcbilabDoorRows.lean that lists a variable, with what it lists TIED to the program's text (the seventh form; the later family's looks); each row that meets fmt, with fmt's text TOLD by the authors' own Lean function (tested against real Go, not proved from fmt's source: count such statements apart). THE CARD IS WHAT COUNTS. Prove the row's statement (the work); the ties are given (YteakoajkmcbilabDoorTie.lean); close each card by the builder's one call (the guide's Derived/Test/ToyasCard.lean, 'card_holds'). Laid BY PROGRAM, IN A SANDBOX (cutbox-door.mjs). By AI agents, Wed Nov 11 2026. No macro, syntax, notation, axiom, sorry.
-/
import Derived.Test.YteakoajkmcbilabDoorRows
import GoSem.ClaimSeven
namespace Go.Proofs.YteakoajkmcbilabDoor
namespace Rows

/-- THE TIED CARD OF 'quernlaw02.ParamShows'. -/
def paramShowsCard : Claim7 := { stood := { row := paramShowsRow, standIns := [], harness := (true, "be40f6a1e1d1176bd9b31d52c899189637c48361240605052a23fe316b4131d7"), looks := true }, kinds := [], alts := [], laidByText := true, laidKinds := [.data, .data, .data], laidTests := true, laidLooks := .later }
def ParamShowsCardSaid : Prop := Claim7.holds Tryd.pinned (.plain (OpenSpec.ofChange paramShowsSpec)) paramShowsCard

/-- THE TIED CARD OF 'quernlaw02.ParamReads'. -/
def paramReadsCard : Claim7 := { stood := { row := paramReadsRow, standIns := [], harness := (true, "be40f6a1e1d1176bd9b31d52c899189637c48361240605052a23fe316b4131d7"), looks := true }, kinds := [], alts := [], laidByText := true, laidKinds := [.data, .data, .data, .data, .sentinel, .sentinel, .pinned], laidTests := true, laidLooks := .later }
def ParamReadsCardSaid : Prop := Claim7.holds Tryd.pinned (.plain (OpenSpec.ofChange paramReadsSpec)) paramReadsCard

/-- THE TIED CARD OF 'quernlaw02.ParamBack'. -/
def paramBackCard : Claim7 := { stood := { row := paramBackRow, standIns := [], harness := (true, "be40f6a1e1d1176bd9b31d52c899189637c48361240605052a23fe316b4131d7"), looks := true }, kinds := [], alts := [], laidByText := true, laidKinds := [.data, .data, .data, .data, .sentinel, .sentinel, .pinned], laidTests := true, laidLooks := .later }
def ParamBackCardSaid : Prop := Claim7.holds Tryd.pinned (.plain (OpenSpec.ofChange paramBackSpec)) paramBackCard

/-- THE SECOND FORM's CARD OF 'quernlaw02.ParamShows'. -/
def paramShowsUptoCard : Claim7 := { stood := { row := paramShowsUptoRow, standIns := [], harness := (true, "be40f6a1e1d1176bd9b31d52c899189637c48361240605052a23fe316b4131d7"), looks := true }, kinds := [], alts := [], laidByText := true, laidKinds := [.data, .data, .data], laidTests := true, laidLooks := .later }
def ParamShowsUptoCardSaid : Prop := Claim7.holds Tryd.pinned (.plain (OpenSpec.upto paramShowsSpec)) paramShowsUptoCard

/-- THE SECOND FORM's CARD OF 'quernlaw02.ParamReads'. -/
def paramReadsUptoCard : Claim7 := { stood := { row := paramReadsUptoRow, standIns := [], harness := (true, "be40f6a1e1d1176bd9b31d52c899189637c48361240605052a23fe316b4131d7"), looks := true }, kinds := [], alts := [], laidByText := true, laidKinds := [.data, .data, .data, .data, .sentinel, .sentinel, .pinned], laidTests := true, laidLooks := .later }
def ParamReadsUptoCardSaid : Prop := Claim7.holds Tryd.pinned (.plain (OpenSpec.upto paramReadsSpec)) paramReadsUptoCard

/-- THE SECOND FORM's CARD OF 'quernlaw02.ParamBack'. -/
def paramBackUptoCard : Claim7 := { stood := { row := paramBackUptoRow, standIns := [], harness := (true, "be40f6a1e1d1176bd9b31d52c899189637c48361240605052a23fe316b4131d7"), looks := true }, kinds := [], alts := [], laidByText := true, laidKinds := [.data, .data, .data, .data, .sentinel, .sentinel, .pinned], laidTests := true, laidLooks := .later }
def ParamBackUptoCardSaid : Prop := Claim7.holds Tryd.pinned (.plain (OpenSpec.upto paramBackSpec)) paramBackUptoCard
end Rows
end Go.Proofs.YteakoajkmcbilabDoor
