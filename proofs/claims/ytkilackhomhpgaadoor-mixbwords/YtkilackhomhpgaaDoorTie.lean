/-
  DERIVED. GIVEN WITH THE SEED: THE PROGRAM's TIES (one call each: nine closed facts by the kernel) AND EACH ROW's TIE, after the 31st guide's Derived/Test/Toyas{Tie, Card}.lean. No idea stands in it: it is a product of the set-up. Laid BY PROGRAM, IN A SANDBOX (cutbox-door.mjs). By AI agents, Wed Nov 11 2026. No macro, syntax, notation, axiom, sorry.
-/
import Derived.Test.YtkilackhomhpgaaDoorRows
import Derived.LaidByTextLater
import Derived.SevenTiedAt
import Derived.LaidSub
import Derived.LaidOnce
namespace Go.Proofs.YtkilackhomhpgaaDoor
open Go
set_option maxRecDepth 100000
theorem seatTie1 : Tryd.prog.laidByTextLater [("quern/mixb.iv", Rows.laid_quern_mixb_iv), ("quern/mixb.orders", Rows.laid_quern_mixb_orders), ("quern/mixb.places", Rows.laid_quern_mixb_places)] [.data, .data, .data] true :=
  Program.laidByTextLater_by_one 42 8 161 (by kernel_rfl) (by kernel_rfl) (by kernel_rfl) (by kernel_rfl) (by kernel_rfl) (by kernel_rfl) (fun _ _ => by kernel_rfl)
theorem noOwnUnsafe : Tryd.pinned.checked.prog.headLifts.contains "ownunsafe" = false := by kernel_rfl
theorem tie : Tryd.prog.laidByTextLater [("quern/mixb.iv", Rows.laid_quern_mixb_iv), ("quern/mixb.orders", Rows.laid_quern_mixb_orders)] [.data, .data] true :=
  Program.laidByTextLater.sub seatTie1 ["quern/mixb.iv", "quern/mixb.orders"] (by kernel_rfl) (by kernel_rfl)
theorem mixbTables_row_tie : Rows.mixbTablesRow.laidByTextAt .later Tryd.pinned [.data, .data] true :=
  OpenClaim.laidByTextAt_later rfl rfl tie noOwnUnsafe
theorem mixbWords_row_tie : Rows.mixbWordsRow.laidByTextAt .later Tryd.pinned [.data, .data] true :=
  OpenClaim.laidByTextAt_later rfl rfl tie noOwnUnsafe
theorem mixbSteps_row_tie : Rows.mixbStepsRow.laidByTextAt .later Tryd.pinned [.data, .data] true :=
  OpenClaim.laidByTextAt_later rfl rfl tie noOwnUnsafe
theorem mixbOrders_row_tie : Rows.mixbOrdersRow.laidByTextAt .later Tryd.pinned [.data, .data] true :=
  OpenClaim.laidByTextAt_later rfl rfl tie noOwnUnsafe
theorem tie2 : Tryd.prog.laidByTextLater [("quern/mixb.iv", Rows.laid_quern_mixb_iv), ("quern/mixb.orders", Rows.laid_quern_mixb_orders), ("quern/mixb.places", Rows.laid_quern_mixb_places)] [.data, .data, .data] true :=
  Program.laidByTextLater.sub seatTie1 ["quern/mixb.iv", "quern/mixb.orders", "quern/mixb.places"] (by kernel_rfl) (by kernel_rfl)
theorem mixbRounds_row_tie : Rows.mixbRoundsRow.laidByTextAt .later Tryd.pinned [.data, .data, .data] true :=
  OpenClaim.laidByTextAt_later rfl rfl tie2 noOwnUnsafe
theorem tie3 : Tryd.prog.laidByTextLater [("quern/mixb.orders", Rows.laid_quern_mixb_orders), ("quern/mixb.places", Rows.laid_quern_mixb_places)] [.data, .data] true :=
  Program.laidByTextLater.sub seatTie1 ["quern/mixb.orders", "quern/mixb.places"] (by kernel_rfl) (by kernel_rfl)
theorem mixbBack_row_tie : Rows.mixbBackRow.laidByTextAt .later Tryd.pinned [.data, .data] true :=
  OpenClaim.laidByTextAt_later rfl rfl tie3 noOwnUnsafe
theorem mixbTablesUpto_row_tie : Rows.mixbTablesUptoRow.laidByTextAt .later Tryd.pinned [.data, .data] true :=
  OpenClaim.laidByTextAt_later rfl rfl tie noOwnUnsafe
theorem mixbWordsUpto_row_tie : Rows.mixbWordsUptoRow.laidByTextAt .later Tryd.pinned [.data, .data] true :=
  OpenClaim.laidByTextAt_later rfl rfl tie noOwnUnsafe
theorem mixbStepsUpto_row_tie : Rows.mixbStepsUptoRow.laidByTextAt .later Tryd.pinned [.data, .data] true :=
  OpenClaim.laidByTextAt_later rfl rfl tie noOwnUnsafe
theorem mixbRoundsUpto_row_tie : Rows.mixbRoundsUptoRow.laidByTextAt .later Tryd.pinned [.data, .data, .data] true :=
  OpenClaim.laidByTextAt_later rfl rfl tie2 noOwnUnsafe
theorem mixbBackUpto_row_tie : Rows.mixbBackUptoRow.laidByTextAt .later Tryd.pinned [.data, .data] true :=
  OpenClaim.laidByTextAt_later rfl rfl tie3 noOwnUnsafe
theorem mixbOrdersUpto_row_tie : Rows.mixbOrdersUptoRow.laidByTextAt .later Tryd.pinned [.data, .data] true :=
  OpenClaim.laidByTextAt_later rfl rfl tie noOwnUnsafe
end Go.Proofs.YtkilackhomhpgaaDoor
