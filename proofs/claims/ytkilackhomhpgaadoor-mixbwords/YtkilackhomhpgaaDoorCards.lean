/-
  DERIVED. GIVEN WITH THE SEED: THE CARDS: each row of YtkilackhomhpgaaDoorRows.lean that lists a variable, with what it lists TIED to the program's text (the seventh form; the later family's looks); each row that meets fmt, with fmt's text TOLD by the authors' own Lean function (tested against real Go, not proved from fmt's source: count such statements apart). THE CARD IS WHAT COUNTS. Prove the row's statement (the work); the ties are given (YtkilackhomhpgaaDoorTie.lean); close each card by the builder's one call (the guide's Derived/Test/ToyasCard.lean, 'card_holds'). Laid BY PROGRAM, IN A SANDBOX (cutbox-door.mjs). By AI agents, Wed Nov 11 2026. No macro, syntax, notation, axiom, sorry.
-/
import Derived.Test.YtkilackhomhpgaaDoorRows
import GoSem.ClaimSeven
namespace Go.Proofs.YtkilackhomhpgaaDoor
namespace Rows

/-- THE TIED CARD OF 'quernlaw03.MixbTables'. -/
def mixbTablesCard : Claim7 := { stood := { row := mixbTablesRow, standIns := [], harness := (true, "20154a3650a96735df3c4b99dfb335622f5fef376e1d7209980f865a9a9bfb57"), looks := false }, kinds := [], alts := [], laidByText := true, laidKinds := [.data, .data], laidTests := true, laidLooks := .later }
def MixbTablesCardSaid : Prop := Claim7.holds Tryd.pinned (.plain (OpenSpec.ofChange mixbTablesSpec)) mixbTablesCard

/-- THE TIED CARD OF 'quernlaw03.MixbWords'. -/
def mixbWordsCard : Claim7 := { stood := { row := mixbWordsRow, standIns := [], harness := (true, "20154a3650a96735df3c4b99dfb335622f5fef376e1d7209980f865a9a9bfb57"), looks := false }, kinds := [], alts := [], laidByText := true, laidKinds := [.data, .data], laidTests := true, laidLooks := .later }
def MixbWordsCardSaid : Prop := Claim7.holds Tryd.pinned (.plain (OpenSpec.ofChange mixbWordsSpec)) mixbWordsCard

/-- THE TIED CARD OF 'quernlaw03.MixbSteps'. -/
def mixbStepsCard : Claim7 := { stood := { row := mixbStepsRow, standIns := [], harness := (true, "20154a3650a96735df3c4b99dfb335622f5fef376e1d7209980f865a9a9bfb57"), looks := false }, kinds := [], alts := [], laidByText := true, laidKinds := [.data, .data], laidTests := true, laidLooks := .later }
def MixbStepsCardSaid : Prop := Claim7.holds Tryd.pinned (.plain (OpenSpec.ofChange mixbStepsSpec)) mixbStepsCard

/-- THE TIED CARD OF 'quernlaw03.MixbRounds'. -/
def mixbRoundsCard : Claim7 := { stood := { row := mixbRoundsRow, standIns := [], harness := (true, "20154a3650a96735df3c4b99dfb335622f5fef376e1d7209980f865a9a9bfb57"), looks := false }, kinds := [], alts := [], laidByText := true, laidKinds := [.data, .data, .data], laidTests := true, laidLooks := .later }
def MixbRoundsCardSaid : Prop := Claim7.holds Tryd.pinned (.plain (OpenSpec.ofChange mixbRoundsSpec)) mixbRoundsCard

/-- THE TIED CARD OF 'quernlaw03.MixbBack'. -/
def mixbBackCard : Claim7 := { stood := { row := mixbBackRow, standIns := [], harness := (true, "20154a3650a96735df3c4b99dfb335622f5fef376e1d7209980f865a9a9bfb57"), looks := false }, kinds := [], alts := [], laidByText := true, laidKinds := [.data, .data], laidTests := true, laidLooks := .later }
def MixbBackCardSaid : Prop := Claim7.holds Tryd.pinned (.plain (OpenSpec.ofChange mixbBackSpec)) mixbBackCard

/-- THE TIED CARD OF 'quernlaw03.MixbOrders'. -/
def mixbOrdersCard : Claim7 := { stood := { row := mixbOrdersRow, standIns := [], harness := (true, "20154a3650a96735df3c4b99dfb335622f5fef376e1d7209980f865a9a9bfb57"), looks := false }, kinds := [], alts := [], laidByText := true, laidKinds := [.data, .data], laidTests := true, laidLooks := .later }
def MixbOrdersCardSaid : Prop := Claim7.holds Tryd.pinned (.plain (OpenSpec.ofChange mixbOrdersSpec)) mixbOrdersCard

/-- THE SECOND FORM's CARD OF 'quernlaw03.MixbTables'. -/
def mixbTablesUptoCard : Claim7 := { stood := { row := mixbTablesUptoRow, standIns := [], harness := (true, "20154a3650a96735df3c4b99dfb335622f5fef376e1d7209980f865a9a9bfb57"), looks := false }, kinds := [], alts := [], laidByText := true, laidKinds := [.data, .data], laidTests := true, laidLooks := .later }
def MixbTablesUptoCardSaid : Prop := Claim7.holds Tryd.pinned (.plain (OpenSpec.upto mixbTablesSpec)) mixbTablesUptoCard

/-- THE SECOND FORM's CARD OF 'quernlaw03.MixbWords'. -/
def mixbWordsUptoCard : Claim7 := { stood := { row := mixbWordsUptoRow, standIns := [], harness := (true, "20154a3650a96735df3c4b99dfb335622f5fef376e1d7209980f865a9a9bfb57"), looks := false }, kinds := [], alts := [], laidByText := true, laidKinds := [.data, .data], laidTests := true, laidLooks := .later }
def MixbWordsUptoCardSaid : Prop := Claim7.holds Tryd.pinned (.plain (OpenSpec.upto mixbWordsSpec)) mixbWordsUptoCard

/-- THE SECOND FORM's CARD OF 'quernlaw03.MixbSteps'. -/
def mixbStepsUptoCard : Claim7 := { stood := { row := mixbStepsUptoRow, standIns := [], harness := (true, "20154a3650a96735df3c4b99dfb335622f5fef376e1d7209980f865a9a9bfb57"), looks := false }, kinds := [], alts := [], laidByText := true, laidKinds := [.data, .data], laidTests := true, laidLooks := .later }
def MixbStepsUptoCardSaid : Prop := Claim7.holds Tryd.pinned (.plain (OpenSpec.upto mixbStepsSpec)) mixbStepsUptoCard

/-- THE SECOND FORM's CARD OF 'quernlaw03.MixbRounds'. -/
def mixbRoundsUptoCard : Claim7 := { stood := { row := mixbRoundsUptoRow, standIns := [], harness := (true, "20154a3650a96735df3c4b99dfb335622f5fef376e1d7209980f865a9a9bfb57"), looks := false }, kinds := [], alts := [], laidByText := true, laidKinds := [.data, .data, .data], laidTests := true, laidLooks := .later }
def MixbRoundsUptoCardSaid : Prop := Claim7.holds Tryd.pinned (.plain (OpenSpec.upto mixbRoundsSpec)) mixbRoundsUptoCard

/-- THE SECOND FORM's CARD OF 'quernlaw03.MixbBack'. -/
def mixbBackUptoCard : Claim7 := { stood := { row := mixbBackUptoRow, standIns := [], harness := (true, "20154a3650a96735df3c4b99dfb335622f5fef376e1d7209980f865a9a9bfb57"), looks := false }, kinds := [], alts := [], laidByText := true, laidKinds := [.data, .data], laidTests := true, laidLooks := .later }
def MixbBackUptoCardSaid : Prop := Claim7.holds Tryd.pinned (.plain (OpenSpec.upto mixbBackSpec)) mixbBackUptoCard

/-- THE SECOND FORM's CARD OF 'quernlaw03.MixbOrders'. -/
def mixbOrdersUptoCard : Claim7 := { stood := { row := mixbOrdersUptoRow, standIns := [], harness := (true, "20154a3650a96735df3c4b99dfb335622f5fef376e1d7209980f865a9a9bfb57"), looks := false }, kinds := [], alts := [], laidByText := true, laidKinds := [.data, .data], laidTests := true, laidLooks := .later }
def MixbOrdersUptoCardSaid : Prop := Claim7.holds Tryd.pinned (.plain (OpenSpec.upto mixbOrdersSpec)) mixbOrdersUptoCard
end Rows
end Go.Proofs.YtkilackhomhpgaaDoor
