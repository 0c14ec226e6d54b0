/-
  DERIVED. GIVEN WITH THE SEED: THE CARDS: each row of YtkilackhomhpgabDoorRows.lean that lists a variable, with what it lists TIED to the program's text (the seventh form; the later family's looks); each row that meets fmt, with fmt's text TOLD by the authors' own Lean function (tested against real Go, not proved from fmt's source: count such statements apart). THE CARD IS WHAT COUNTS. Prove the row's statement (the work); the ties are given (YtkilackhomhpgabDoorTie.lean); close each card by the builder's one call (the guide's Derived/Test/ToyasCard.lean, 'card_holds'). Laid BY PROGRAM, IN A SANDBOX (cutbox-door.mjs). By AI agents, Wed Nov 11 2026. No macro, syntax, notation, axiom, sorry.
-/
import Derived.Test.YtkilackhomhpgabDoorRows
import GoSem.ClaimSeven
namespace Go.Proofs.YtkilackhomhpgabDoor
namespace Rows

/-- THE TIED CARD OF 'quernlaw03.MixbInits'. -/
def mixbInitsCard : Claim7 := { stood := { row := mixbInitsRow, standIns := [], harness := (true, "59c6ea5f2d1ef3789d02cdb95bf5be0a5a187334713341045bcaa2a898c46221"), looks := false }, kinds := [], alts := [], laidByText := true, laidKinds := [.data], laidTests := true, laidLooks := .later }
def MixbInitsCardSaid : Prop := Claim7.holds Tryd.pinned (.plain (OpenSpec.ofChange mixbInitsSpec)) mixbInitsCard

/-- THE TIED CARD OF 'quernlaw03.MixbBlocks'. -/
def mixbBlocksCard : Claim7 := { stood := { row := mixbBlocksRow, standIns := [], harness := (true, "59c6ea5f2d1ef3789d02cdb95bf5be0a5a187334713341045bcaa2a898c46221"), looks := false }, kinds := [], alts := [], laidByText := true, laidKinds := [.data, .data, .data], laidTests := true, laidLooks := .later }
def MixbBlocksCardSaid : Prop := Claim7.holds Tryd.pinned (.plain (OpenSpec.ofChange mixbBlocksSpec)) mixbBlocksCard

/-- THE TIED CARD OF 'quernlaw03.MixbSpells'. -/
def mixbSpellsCard : Claim7 := { stood := { row := mixbSpellsRow, standIns := [], harness := (true, "59c6ea5f2d1ef3789d02cdb95bf5be0a5a187334713341045bcaa2a898c46221"), looks := false }, kinds := [], alts := [], laidByText := true, laidKinds := [.data, .data, .data], laidTests := true, laidLooks := .later }
def MixbSpellsCardSaid : Prop := Claim7.holds Tryd.pinned (.plain (OpenSpec.ofChange mixbSpellsSpec)) mixbSpellsCard

/-- THE SECOND FORM's CARD OF 'quernlaw03.MixbInits'. -/
def mixbInitsUptoCard : Claim7 := { stood := { row := mixbInitsUptoRow, standIns := [], harness := (true, "59c6ea5f2d1ef3789d02cdb95bf5be0a5a187334713341045bcaa2a898c46221"), looks := false }, kinds := [], alts := [], laidByText := true, laidKinds := [.data], laidTests := true, laidLooks := .later }
def MixbInitsUptoCardSaid : Prop := Claim7.holds Tryd.pinned (.plain (OpenSpec.upto mixbInitsSpec)) mixbInitsUptoCard

/-- THE SECOND FORM's CARD OF 'quernlaw03.MixbBlocks'. -/
def mixbBlocksUptoCard : Claim7 := { stood := { row := mixbBlocksUptoRow, standIns := [], harness := (true, "59c6ea5f2d1ef3789d02cdb95bf5be0a5a187334713341045bcaa2a898c46221"), looks := false }, kinds := [], alts := [], laidByText := true, laidKinds := [.data, .data, .data], laidTests := true, laidLooks := .later }
def MixbBlocksUptoCardSaid : Prop := Claim7.holds Tryd.pinned (.plain (OpenSpec.upto mixbBlocksSpec)) mixbBlocksUptoCard

/-- THE SECOND FORM's CARD OF 'quernlaw03.MixbSpells'. -/
def mixbSpellsUptoCard : Claim7 := { stood := { row := mixbSpellsUptoRow, standIns := [], harness := (true, "59c6ea5f2d1ef3789d02cdb95bf5be0a5a187334713341045bcaa2a898c46221"), looks := false }, kinds := [], alts := [], laidByText := true, laidKinds := [.data, .data, .data], laidTests := true, laidLooks := .later }
def MixbSpellsUptoCardSaid : Prop := Claim7.holds Tryd.pinned (.plain (OpenSpec.upto mixbSpellsSpec)) mixbSpellsUptoCard
end Rows
end Go.Proofs.YtkilackhomhpgabDoor
