/-
  DERIVED. GIVEN WITH THE SEED: THE CARDS: each row of YtecepllidmkmhabDoorRows.lean that lists a variable, with what it lists TIED to the program's text (the seventh form; the later family's looks); each row that meets fmt, with fmt's text TOLD by the authors' own Lean function (tested against real Go, not proved from fmt's source: count such statements apart). THE CARD IS WHAT COUNTS. Prove the row's statement (the work); the ties are given (YtecepllidmkmhabDoorTie.lean); close each card by the builder's one call (the guide's Derived/Test/ToyasCard.lean, 'card_holds'). Laid BY PROGRAM, IN A SANDBOX (cutbox-door.mjs). By AI agents, Wed Nov 11 2026. No macro, syntax, notation, axiom, sorry.
-/
import Derived.Test.YtecepllidmkmhabDoorRows
import GoSem.ClaimSeven
namespace Go.Proofs.YtecepllidmkmhabDoor
namespace Rows

/-- THE TIED CARD OF 'quernlaw04.MixsChains'. -/
def mixsChainsCard : Claim7 := { stood := { row := mixsChainsRow, standIns := [], harness := (true, "03ff1b85fd7add4d9048a090004e0ded140d99c63787f56dd151475f909ee98e"), looks := false }, kinds := [], alts := [], laidByText := true, laidKinds := [.data, .data], laidTests := true, laidLooks := .later }
def MixsChainsCardSaid : Prop := Claim7.holds Tryd.pinned (.plain (OpenSpec.ofChange mixsChainsSpec)) mixsChainsCard

/-- THE TIED CARD OF 'quernlaw04.MixsBack'. -/
def mixsBackCard : Claim7 := { stood := { row := mixsBackRow, standIns := [], harness := (true, "03ff1b85fd7add4d9048a090004e0ded140d99c63787f56dd151475f909ee98e"), looks := false }, kinds := [], alts := [], laidByText := true, laidKinds := [.data, .data], laidTests := true, laidLooks := .later }
def MixsBackCardSaid : Prop := Claim7.holds Tryd.pinned (.plain (OpenSpec.ofChange mixsBackSpec)) mixsBackCard

/-- THE TIED CARD OF 'quernlaw04.MixsUndone'. -/
def mixsUndoneCard : Claim7 := { stood := { row := mixsUndoneRow, standIns := [], harness := (true, "03ff1b85fd7add4d9048a090004e0ded140d99c63787f56dd151475f909ee98e"), looks := false }, kinds := [], alts := [], laidByText := true, laidKinds := [.data, .data], laidTests := true, laidLooks := .later }
def MixsUndoneCardSaid : Prop := Claim7.holds Tryd.pinned (.plain (OpenSpec.ofChange mixsUndoneSpec)) mixsUndoneCard

/-- THE TIED CARD OF 'quernlaw04.MixsUnlike'. -/
def mixsUnlikeCard : Claim7 := { stood := { row := mixsUnlikeRow, standIns := [], harness := (true, "03ff1b85fd7add4d9048a090004e0ded140d99c63787f56dd151475f909ee98e"), looks := false }, kinds := [], alts := [], laidByText := true, laidKinds := [.data, .data], laidTests := true, laidLooks := .later }
def MixsUnlikeCardSaid : Prop := Claim7.holds Tryd.pinned (.plain (OpenSpec.ofChange mixsUnlikeSpec)) mixsUnlikeCard

/-- THE TIED CARD OF 'quernlaw04.MixsParts'. -/
def mixsPartsCard : Claim7 := { stood := { row := mixsPartsRow, standIns := [], harness := (true, "03ff1b85fd7add4d9048a090004e0ded140d99c63787f56dd151475f909ee98e"), looks := false }, kinds := [], alts := [], laidByText := true, laidKinds := [.data, .data], laidTests := true, laidLooks := .later }
def MixsPartsCardSaid : Prop := Claim7.holds Tryd.pinned (.plain (OpenSpec.ofChange mixsPartsSpec)) mixsPartsCard

/-- THE SECOND FORM's CARD OF 'quernlaw04.MixsChains'. -/
def mixsChainsUptoCard : Claim7 := { stood := { row := mixsChainsUptoRow, standIns := [], harness := (true, "03ff1b85fd7add4d9048a090004e0ded140d99c63787f56dd151475f909ee98e"), looks := false }, kinds := [], alts := [], laidByText := true, laidKinds := [.data, .data], laidTests := true, laidLooks := .later }
def MixsChainsUptoCardSaid : Prop := Claim7.holds Tryd.pinned (.plain (OpenSpec.upto mixsChainsSpec)) mixsChainsUptoCard

/-- THE SECOND FORM's CARD OF 'quernlaw04.MixsBack'. -/
def mixsBackUptoCard : Claim7 := { stood := { row := mixsBackUptoRow, standIns := [], harness := (true, "03ff1b85fd7add4d9048a090004e0ded140d99c63787f56dd151475f909ee98e"), looks := false }, kinds := [], alts := [], laidByText := true, laidKinds := [.data, .data], laidTests := true, laidLooks := .later }
def MixsBackUptoCardSaid : Prop := Claim7.holds Tryd.pinned (.plain (OpenSpec.upto mixsBackSpec)) mixsBackUptoCard

/-- THE SECOND FORM's CARD OF 'quernlaw04.MixsUndone'. -/
def mixsUndoneUptoCard : Claim7 := { stood := { row := mixsUndoneUptoRow, standIns := [], harness := (true, "03ff1b85fd7add4d9048a090004e0ded140d99c63787f56dd151475f909ee98e"), looks := false }, kinds := [], alts := [], laidByText := true, laidKinds := [.data, .data], laidTests := true, laidLooks := .later }
def MixsUndoneUptoCardSaid : Prop := Claim7.holds Tryd.pinned (.plain (OpenSpec.upto mixsUndoneSpec)) mixsUndoneUptoCard

/-- THE SECOND FORM's CARD OF 'quernlaw04.MixsUnlike'. -/
def mixsUnlikeUptoCard : Claim7 := { stood := { row := mixsUnlikeUptoRow, standIns := [], harness := (true, "03ff1b85fd7add4d9048a090004e0ded140d99c63787f56dd151475f909ee98e"), looks := false }, kinds := [], alts := [], laidByText := true, laidKinds := [.data, .data], laidTests := true, laidLooks := .later }
def MixsUnlikeUptoCardSaid : Prop := Claim7.holds Tryd.pinned (.plain (OpenSpec.upto mixsUnlikeSpec)) mixsUnlikeUptoCard

/-- THE SECOND FORM's CARD OF 'quernlaw04.MixsParts'. -/
def mixsPartsUptoCard : Claim7 := { stood := { row := mixsPartsUptoRow, standIns := [], harness := (true, "03ff1b85fd7add4d9048a090004e0ded140d99c63787f56dd151475f909ee98e"), looks := false }, kinds := [], alts := [], laidByText := true, laidKinds := [.data, .data], laidTests := true, laidLooks := .later }
def MixsPartsUptoCardSaid : Prop := Claim7.holds Tryd.pinned (.plain (OpenSpec.upto mixsPartsSpec)) mixsPartsUptoCard
end Rows
end Go.Proofs.YtecepllidmkmhabDoor
