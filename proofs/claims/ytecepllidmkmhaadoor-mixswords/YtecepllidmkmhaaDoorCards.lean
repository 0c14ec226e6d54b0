/-
  DERIVED. GIVEN WITH THE SEED: THE CARDS: each row of YtecepllidmkmhaaDoorRows.lean that lists a variable, with what it lists TIED to the program's text (the seventh form; the later family's looks); each row that meets fmt, with fmt's text TOLD by the authors' own Lean function (tested against real Go, not proved from fmt's source: count such statements apart). THE CARD IS WHAT COUNTS. Prove the row's statement (the work); the ties are given (YtecepllidmkmhaaDoorTie.lean); close each card by the builder's one call (the guide's Derived/Test/ToyasCard.lean, 'card_holds'). Laid BY PROGRAM, IN A SANDBOX (cutbox-door.mjs). By AI agents, Wed Nov 11 2026. No macro, syntax, notation, axiom, sorry.
-/
import Derived.Test.YtecepllidmkmhaaDoorRows
import GoSem.ClaimSeven
namespace Go.Proofs.YtecepllidmkmhaaDoor
namespace Rows

/-- THE TIED CARD OF 'quernlaw04.MixsWords'. -/
def mixsWordsCard : Claim7 := { stood := { row := mixsWordsRow, standIns := [], harness := (true, "ac3ca5b5fedb23a8d32c3cab42cc7afc886005eef826307898bc18eb82776468"), looks := false }, kinds := [], alts := [], laidByText := true, laidKinds := [.data], laidTests := true, laidLooks := .later }
def MixsWordsCardSaid : Prop := Claim7.holds Tryd.pinned (.plain (OpenSpec.ofChange mixsWordsSpec)) mixsWordsCard

/-- THE TIED CARD OF 'quernlaw04.MixsRounds'. -/
def mixsRoundsCard : Claim7 := { stood := { row := mixsRoundsRow, standIns := [], harness := (true, "ac3ca5b5fedb23a8d32c3cab42cc7afc886005eef826307898bc18eb82776468"), looks := false }, kinds := [], alts := [], laidByText := true, laidKinds := [.data], laidTests := true, laidLooks := .later }
def MixsRoundsCardSaid : Prop := Claim7.holds Tryd.pinned (.plain (OpenSpec.ofChange mixsRoundsSpec)) mixsRoundsCard

/-- THE TIED CARD OF 'quernlaw04.MixsRuns'. -/
def mixsRunsCard : Claim7 := { stood := { row := mixsRunsRow, standIns := [], harness := (true, "ac3ca5b5fedb23a8d32c3cab42cc7afc886005eef826307898bc18eb82776468"), looks := false }, kinds := [], alts := [], laidByText := true, laidKinds := [.data, .data], laidTests := true, laidLooks := .later }
def MixsRunsCardSaid : Prop := Claim7.holds Tryd.pinned (.plain (OpenSpec.ofChange mixsRunsSpec)) mixsRunsCard

/-- THE TIED CARD OF 'quernlaw04.MixsStates'. -/
def mixsStatesCard : Claim7 := { stood := { row := mixsStatesRow, standIns := [], harness := (true, "ac3ca5b5fedb23a8d32c3cab42cc7afc886005eef826307898bc18eb82776468"), looks := false }, kinds := [], alts := [], laidByText := true, laidKinds := [.data, .data], laidTests := true, laidLooks := .later }
def MixsStatesCardSaid : Prop := Claim7.holds Tryd.pinned (.plain (OpenSpec.ofChange mixsStatesSpec)) mixsStatesCard

/-- THE TIED CARD OF 'quernlaw04.MixsOpens'. -/
def mixsOpensCard : Claim7 := { stood := { row := mixsOpensRow, standIns := [], harness := (true, "ac3ca5b5fedb23a8d32c3cab42cc7afc886005eef826307898bc18eb82776468"), looks := false }, kinds := [], alts := [], laidByText := true, laidKinds := [.data, .data], laidTests := true, laidLooks := .later }
def MixsOpensCardSaid : Prop := Claim7.holds Tryd.pinned (.plain (OpenSpec.ofChange mixsOpensSpec)) mixsOpensCard

/-- THE SECOND FORM's CARD OF 'quernlaw04.MixsWords'. -/
def mixsWordsUptoCard : Claim7 := { stood := { row := mixsWordsUptoRow, standIns := [], harness := (true, "ac3ca5b5fedb23a8d32c3cab42cc7afc886005eef826307898bc18eb82776468"), looks := false }, kinds := [], alts := [], laidByText := true, laidKinds := [.data], laidTests := true, laidLooks := .later }
def MixsWordsUptoCardSaid : Prop := Claim7.holds Tryd.pinned (.plain (OpenSpec.upto mixsWordsSpec)) mixsWordsUptoCard

/-- THE SECOND FORM's CARD OF 'quernlaw04.MixsRounds'. -/
def mixsRoundsUptoCard : Claim7 := { stood := { row := mixsRoundsUptoRow, standIns := [], harness := (true, "ac3ca5b5fedb23a8d32c3cab42cc7afc886005eef826307898bc18eb82776468"), looks := false }, kinds := [], alts := [], laidByText := true, laidKinds := [.data], laidTests := true, laidLooks := .later }
def MixsRoundsUptoCardSaid : Prop := Claim7.holds Tryd.pinned (.plain (OpenSpec.upto mixsRoundsSpec)) mixsRoundsUptoCard

/-- THE SECOND FORM's CARD OF 'quernlaw04.MixsRuns'. -/
def mixsRunsUptoCard : Claim7 := { stood := { row := mixsRunsUptoRow, standIns := [], harness := (true, "ac3ca5b5fedb23a8d32c3cab42cc7afc886005eef826307898bc18eb82776468"), looks := false }, kinds := [], alts := [], laidByText := true, laidKinds := [.data, .data], laidTests := true, laidLooks := .later }
def MixsRunsUptoCardSaid : Prop := Claim7.holds Tryd.pinned (.plain (OpenSpec.upto mixsRunsSpec)) mixsRunsUptoCard

/-- THE SECOND FORM's CARD OF 'quernlaw04.MixsStates'. -/
def mixsStatesUptoCard : Claim7 := { stood := { row := mixsStatesUptoRow, standIns := [], harness := (true, "ac3ca5b5fedb23a8d32c3cab42cc7afc886005eef826307898bc18eb82776468"), looks := false }, kinds := [], alts := [], laidByText := true, laidKinds := [.data, .data], laidTests := true, laidLooks := .later }
def MixsStatesUptoCardSaid : Prop := Claim7.holds Tryd.pinned (.plain (OpenSpec.upto mixsStatesSpec)) mixsStatesUptoCard

/-- THE SECOND FORM's CARD OF 'quernlaw04.MixsOpens'. -/
def mixsOpensUptoCard : Claim7 := { stood := { row := mixsOpensUptoRow, standIns := [], harness := (true, "ac3ca5b5fedb23a8d32c3cab42cc7afc886005eef826307898bc18eb82776468"), looks := false }, kinds := [], alts := [], laidByText := true, laidKinds := [.data, .data], laidTests := true, laidLooks := .later }
def MixsOpensUptoCardSaid : Prop := Claim7.holds Tryd.pinned (.plain (OpenSpec.upto mixsOpensSpec)) mixsOpensUptoCard
end Rows
end Go.Proofs.YtecepllidmkmhaaDoor
