/-
  DERIVED. GIVEN WITH THE SEED: THE CARDS: each row of YtkgemkfajkcgcaaDoorRows.lean that lists a variable, with what it lists TIED to the program's text (the seventh form; the later family's looks); each row that meets fmt, with fmt's text TOLD by the authors' own Lean function (tested against real Go, not proved from fmt's source: count such statements apart). THE CARD IS WHAT COUNTS. Prove the row's statement (the work); the ties are given (YtkgemkfajkcgcaaDoorTie.lean); close each card by the builder's one call (the guide's Derived/Test/ToyasCard.lean, 'card_holds'). Laid BY PROGRAM, IN A SANDBOX (cutbox-door.mjs). By AI agents, Wed Nov 11 2026. No macro, syntax, notation, axiom, sorry.
-/
import Derived.Test.YtkgemkfajkcgcaaDoorRows
import GoSem.ClaimSeven
namespace Go.Proofs.YtkgemkfajkcgcaaDoor
namespace Rows

/-- THE TIED CARD OF 'quernlaw19.LongBlends'. -/
def longBlendsCard : Claim7 := { stood := { row := longBlendsRow, standIns := [], harness := (true, "e980ce4252353da469f517fc4061ac80b2576618413c76b75d0fd59d63341e70"), looks := false }, kinds := [], alts := [], laidByText := true, laidKinds := [.data], laidTests := true, laidLooks := .later }
def LongBlendsCardSaid : Prop := Claim7.holds Tryd.pinned (.plain (OpenSpec.ofChange longBlendsSpec)) longBlendsCard

/-- THE TIED CARD OF 'quernlaw19.LongMixes'. -/
def longMixesCard : Claim7 := { stood := { row := longMixesRow, standIns := [], harness := (true, "e980ce4252353da469f517fc4061ac80b2576618413c76b75d0fd59d63341e70"), looks := false }, kinds := [], alts := [], laidByText := true, laidKinds := [.data], laidTests := true, laidLooks := .later }
def LongMixesCardSaid : Prop := Claim7.holds Tryd.pinned (.plain (OpenSpec.ofChange longMixesSpec)) longMixesCard

/-- THE TIED CARD OF 'quernlaw19.LongTwins'. -/
def longTwinsCard : Claim7 := { stood := { row := longTwinsRow, standIns := [], harness := (true, "e980ce4252353da469f517fc4061ac80b2576618413c76b75d0fd59d63341e70"), looks := false }, kinds := [], alts := [], laidByText := true, laidKinds := [.data], laidTests := true, laidLooks := .later }
def LongTwinsCardSaid : Prop := Claim7.holds Tryd.pinned (.plain (OpenSpec.ofChange longTwinsSpec)) longTwinsCard

/-- THE SECOND FORM's CARD OF 'quernlaw19.LongBlends'. -/
def longBlendsUptoCard : Claim7 := { stood := { row := longBlendsUptoRow, standIns := [], harness := (true, "e980ce4252353da469f517fc4061ac80b2576618413c76b75d0fd59d63341e70"), looks := false }, kinds := [], alts := [], laidByText := true, laidKinds := [.data], laidTests := true, laidLooks := .later }
def LongBlendsUptoCardSaid : Prop := Claim7.holds Tryd.pinned (.plain (OpenSpec.upto longBlendsSpec)) longBlendsUptoCard

/-- THE SECOND FORM's CARD OF 'quernlaw19.LongMixes'. -/
def longMixesUptoCard : Claim7 := { stood := { row := longMixesUptoRow, standIns := [], harness := (true, "e980ce4252353da469f517fc4061ac80b2576618413c76b75d0fd59d63341e70"), looks := false }, kinds := [], alts := [], laidByText := true, laidKinds := [.data], laidTests := true, laidLooks := .later }
def LongMixesUptoCardSaid : Prop := Claim7.holds Tryd.pinned (.plain (OpenSpec.upto longMixesSpec)) longMixesUptoCard

/-- THE SECOND FORM's CARD OF 'quernlaw19.LongTwins'. -/
def longTwinsUptoCard : Claim7 := { stood := { row := longTwinsUptoRow, standIns := [], harness := (true, "e980ce4252353da469f517fc4061ac80b2576618413c76b75d0fd59d63341e70"), looks := false }, kinds := [], alts := [], laidByText := true, laidKinds := [.data], laidTests := true, laidLooks := .later }
def LongTwinsUptoCardSaid : Prop := Claim7.holds Tryd.pinned (.plain (OpenSpec.upto longTwinsSpec)) longTwinsUptoCard
end Rows
end Go.Proofs.YtkgemkfajkcgcaaDoor
