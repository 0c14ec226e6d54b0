/-
  DERIVED. GIVEN WITH THE SEED: THE PROGRAM's TIES (one call each: nine closed facts by the kernel) AND EACH ROW's TIE, after the 31st guide's Derived/Test/Toyas{Tie, Card}.lean. No idea stands in it: it is a product of the set-up. Laid BY PROGRAM, IN A SANDBOX (cutbox-door.mjs). By AI agents, Wed Nov 11 2026. No macro, syntax, notation, axiom, sorry.
-/
import Derived.Test.YtecepllidmkmhaaDoorRows
import Derived.LaidByTextLater
import Derived.SevenTiedAt
import Derived.LaidSub
import Derived.LaidOnce
namespace Go.Proofs.YtecepllidmkmhaaDoor
open Go
set_option maxRecDepth 100000
theorem seatTie1 : Tryd.prog.laidByTextLater [("quern/mixb.orders", Rows.laid_quern_mixb_orders), ("quern/mixs.iv", Rows.laid_quern_mixs_iv)] [.data, .data] true :=
  Program.laidByTextLater_by_one 29 8 161 (by kernel_rfl) (by kernel_rfl) (by kernel_rfl) (by kernel_rfl) (by kernel_rfl) (by kernel_rfl) (fun _ _ => by kernel_rfl)
theorem noOwnUnsafe : Tryd.pinned.checked.prog.headLifts.contains "ownunsafe" = false := by kernel_rfl
theorem tie : Tryd.prog.laidByTextLater [("quern/mixs.iv", Rows.laid_quern_mixs_iv)] [.data] true :=
  Program.laidByTextLater.sub seatTie1 ["quern/mixs.iv"] (by kernel_rfl) (by kernel_rfl)
theorem mixsWords_row_tie : Rows.mixsWordsRow.laidByTextAt .later Tryd.pinned [.data] true :=
  OpenClaim.laidByTextAt_later rfl rfl tie noOwnUnsafe
theorem tie2 : Tryd.prog.laidByTextLater [("quern/mixb.orders", Rows.laid_quern_mixb_orders)] [.data] true :=
  Program.laidByTextLater.sub seatTie1 ["quern/mixb.orders"] (by kernel_rfl) (by kernel_rfl)
theorem mixsRounds_row_tie : Rows.mixsRoundsRow.laidByTextAt .later Tryd.pinned [.data] true :=
  OpenClaim.laidByTextAt_later rfl rfl tie2 noOwnUnsafe
theorem tie3 : Tryd.prog.laidByTextLater [("quern/mixb.orders", Rows.laid_quern_mixb_orders), ("quern/mixs.iv", Rows.laid_quern_mixs_iv)] [.data, .data] true :=
  Program.laidByTextLater.sub seatTie1 ["quern/mixb.orders", "quern/mixs.iv"] (by kernel_rfl) (by kernel_rfl)
theorem mixsRuns_row_tie : Rows.mixsRunsRow.laidByTextAt .later Tryd.pinned [.data, .data] true :=
  OpenClaim.laidByTextAt_later rfl rfl tie3 noOwnUnsafe
theorem mixsStates_row_tie : Rows.mixsStatesRow.laidByTextAt .later Tryd.pinned [.data, .data] true :=
  OpenClaim.laidByTextAt_later rfl rfl tie3 noOwnUnsafe
theorem mixsOpens_row_tie : Rows.mixsOpensRow.laidByTextAt .later Tryd.pinned [.data, .data] true :=
  OpenClaim.laidByTextAt_later rfl rfl tie3 noOwnUnsafe
theorem mixsWordsUpto_row_tie : Rows.mixsWordsUptoRow.laidByTextAt .later Tryd.pinned [.data] true :=
  OpenClaim.laidByTextAt_later rfl rfl tie noOwnUnsafe
theorem mixsRoundsUpto_row_tie : Rows.mixsRoundsUptoRow.laidByTextAt .later Tryd.pinned [.data] true :=
  OpenClaim.laidByTextAt_later rfl rfl tie2 noOwnUnsafe
theorem mixsRunsUpto_row_tie : Rows.mixsRunsUptoRow.laidByTextAt .later Tryd.pinned [.data, .data] true :=
  OpenClaim.laidByTextAt_later rfl rfl tie3 noOwnUnsafe
theorem mixsStatesUpto_row_tie : Rows.mixsStatesUptoRow.laidByTextAt .later Tryd.pinned [.data, .data] true :=
  OpenClaim.laidByTextAt_later rfl rfl tie3 noOwnUnsafe
theorem mixsOpensUpto_row_tie : Rows.mixsOpensUptoRow.laidByTextAt .later Tryd.pinned [.data, .data] true :=
  OpenClaim.laidByTextAt_later rfl rfl tie3 noOwnUnsafe
end Go.Proofs.YtecepllidmkmhaaDoor
