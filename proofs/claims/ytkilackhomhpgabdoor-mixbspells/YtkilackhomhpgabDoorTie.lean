/-
  DERIVED. GIVEN WITH THE SEED: THE PROGRAM's TIES (one call each: nine closed facts by the kernel) AND EACH ROW's TIE, after the 31st guide's Derived/Test/Toyas{Tie, Card}.lean. No idea stands in it: it is a product of the set-up. Laid BY PROGRAM, IN A SANDBOX (cutbox-door.mjs). By AI agents, Wed Nov 11 2026. No macro, syntax, notation, axiom, sorry.
-/
import Derived.Test.YtkilackhomhpgabDoorRows
import Derived.LaidByTextLater
import Derived.SevenTiedAt
import Derived.LaidSub
import Derived.LaidOnce
namespace Go.Proofs.YtkilackhomhpgabDoor
open Go
set_option maxRecDepth 100000
theorem seatTie1 : Tryd.prog.laidByTextLater [("quern/mixb.iv", Rows.laid_quern_mixb_iv), ("quern/mixb.orders", Rows.laid_quern_mixb_orders), ("quern/mixb.places", Rows.laid_quern_mixb_places)] [.data, .data, .data] true :=
  Program.laidByTextLater_by_one 42 8 161 (by kernel_rfl) (by kernel_rfl) (by kernel_rfl) (by kernel_rfl) (by kernel_rfl) (by kernel_rfl) (fun _ _ => by kernel_rfl)
theorem noOwnUnsafe : Tryd.pinned.checked.prog.headLifts.contains "ownunsafe" = false := by kernel_rfl
theorem tie : Tryd.prog.laidByTextLater [("quern/mixb.iv", Rows.laid_quern_mixb_iv)] [.data] true :=
  Program.laidByTextLater.sub seatTie1 ["quern/mixb.iv"] (by kernel_rfl) (by kernel_rfl)
theorem mixbInits_row_tie : Rows.mixbInitsRow.laidByTextAt .later Tryd.pinned [.data] true :=
  OpenClaim.laidByTextAt_later rfl rfl tie noOwnUnsafe
theorem tie2 : Tryd.prog.laidByTextLater [("quern/mixb.iv", Rows.laid_quern_mixb_iv), ("quern/mixb.orders", Rows.laid_quern_mixb_orders), ("quern/mixb.places", Rows.laid_quern_mixb_places)] [.data, .data, .data] true :=
  Program.laidByTextLater.sub seatTie1 ["quern/mixb.iv", "quern/mixb.orders", "quern/mixb.places"] (by kernel_rfl) (by kernel_rfl)
theorem mixbBlocks_row_tie : Rows.mixbBlocksRow.laidByTextAt .later Tryd.pinned [.data, .data, .data] true :=
  OpenClaim.laidByTextAt_later rfl rfl tie2 noOwnUnsafe
theorem mixbSpells_row_tie : Rows.mixbSpellsRow.laidByTextAt .later Tryd.pinned [.data, .data, .data] true :=
  OpenClaim.laidByTextAt_later rfl rfl tie2 noOwnUnsafe
theorem mixbInitsUpto_row_tie : Rows.mixbInitsUptoRow.laidByTextAt .later Tryd.pinned [.data] true :=
  OpenClaim.laidByTextAt_later rfl rfl tie noOwnUnsafe
theorem mixbBlocksUpto_row_tie : Rows.mixbBlocksUptoRow.laidByTextAt .later Tryd.pinned [.data, .data, .data] true :=
  OpenClaim.laidByTextAt_later rfl rfl tie2 noOwnUnsafe
theorem mixbSpellsUpto_row_tie : Rows.mixbSpellsUptoRow.laidByTextAt .later Tryd.pinned [.data, .data, .data] true :=
  OpenClaim.laidByTextAt_later rfl rfl tie2 noOwnUnsafe
end Go.Proofs.YtkilackhomhpgabDoor
