/-
  DERIVED. GIVEN WITH THE SEED: THE PROGRAM's TIES (one call each: nine closed facts by the kernel) AND EACH ROW's TIE, after the 31st guide's Derived/Test/Toyas{Tie, Card}.lean. No idea stands in it: it is a product of the set-up. Laid BY PROGRAM, IN A SANDBOX (cutbox-door.mjs). By AI agents, Wed Nov 11 2026. No macro, syntax, notation, axiom, sorry.
-/
import Derived.Test.YtfpmmgboodcfiaaDoorRows
import Derived.LaidByTextLater
import Derived.SevenTiedAt
import Derived.LaidSub
import Derived.LaidOnce
namespace Go.Proofs.YtfpmmgboodcfiaaDoor
open Go
set_option maxRecDepth 100000
theorem seatTie1 : Tryd.prog.laidByTextLater [("errors.errorType", Rows.laid_errors_errorType), ("concordat/api.ErrText", Rows.laid_concordat_api_ErrText), ("concordat/api.ErrBound", Rows.laid_concordat_api_ErrBound), ("concordat/api.ErrShape", Rows.laid_concordat_api_ErrShape), ("concordat/api.ErrName", Rows.laid_concordat_api_ErrName), ("concordat/api.ErrKind", Rows.laid_concordat_api_ErrKind), ("concordat/api.ErrNone", Rows.laid_concordat_api_ErrNone), ("concordat/api.ErrExist", Rows.laid_concordat_api_ErrExist), ("concordat/api.ErrFull", Rows.laid_concordat_api_ErrFull), ("concordat/api.ErrGap", Rows.laid_concordat_api_ErrGap), ("concordat/api.ErrCycle", Rows.laid_concordat_api_ErrCycle), ("concordat/api.ErrOff", Rows.laid_concordat_api_ErrOff), ("concordat/api.ErrSum", Rows.laid_concordat_api_ErrSum)] [.handle, .sentinel, .sentinel, .sentinel, .sentinel, .sentinel, .sentinel, .sentinel, .sentinel, .sentinel, .sentinel, .sentinel, .sentinel] true :=
  Program.laidByTextLater_by_one 244 8 2 (by kernel_rfl) (by kernel_rfl) (by kernel_rfl) (by kernel_rfl) (by kernel_rfl) (by kernel_rfl) (fun _ _ => by kernel_rfl)
theorem noOwnUnsafe : Tryd.pinned.checked.prog.headLifts.contains "ownunsafe" = false := by kernel_rfl
theorem tie : Tryd.prog.laidByTextLater [("errors.errorType", Rows.laid_errors_errorType), ("concordat/api.ErrText", Rows.laid_concordat_api_ErrText), ("concordat/api.ErrBound", Rows.laid_concordat_api_ErrBound), ("concordat/api.ErrShape", Rows.laid_concordat_api_ErrShape), ("concordat/api.ErrName", Rows.laid_concordat_api_ErrName), ("concordat/api.ErrKind", Rows.laid_concordat_api_ErrKind), ("concordat/api.ErrNone", Rows.laid_concordat_api_ErrNone), ("concordat/api.ErrExist", Rows.laid_concordat_api_ErrExist), ("concordat/api.ErrFull", Rows.laid_concordat_api_ErrFull), ("concordat/api.ErrGap", Rows.laid_concordat_api_ErrGap), ("concordat/api.ErrCycle", Rows.laid_concordat_api_ErrCycle), ("concordat/api.ErrOff", Rows.laid_concordat_api_ErrOff), ("concordat/api.ErrSum", Rows.laid_concordat_api_ErrSum)] [.handle, .sentinel, .sentinel, .sentinel, .sentinel, .sentinel, .sentinel, .sentinel, .sentinel, .sentinel, .sentinel, .sentinel, .sentinel] true :=
  Program.laidByTextLater.sub seatTie1 ["errors.errorType", "concordat/api.ErrText", "concordat/api.ErrBound", "concordat/api.ErrShape", "concordat/api.ErrName", "concordat/api.ErrKind", "concordat/api.ErrNone", "concordat/api.ErrExist", "concordat/api.ErrFull", "concordat/api.ErrGap", "concordat/api.ErrCycle", "concordat/api.ErrOff", "concordat/api.ErrSum"] (by kernel_rfl) (by kernel_rfl)
theorem cellsSets_row_tie : Rows.cellsSetsRow.laidByTextAt .later Tryd.pinned [.handle, .sentinel, .sentinel, .sentinel, .sentinel, .sentinel, .sentinel, .sentinel, .sentinel, .sentinel, .sentinel, .sentinel, .sentinel] true :=
  OpenClaim.laidByTextAt_later rfl rfl tie noOwnUnsafe
theorem tie2 : Tryd.prog.laidByTextLater [("concordat/api.ErrBound", Rows.laid_concordat_api_ErrBound), ("concordat/api.ErrShape", Rows.laid_concordat_api_ErrShape), ("concordat/api.ErrName", Rows.laid_concordat_api_ErrName), ("concordat/api.ErrKind", Rows.laid_concordat_api_ErrKind)] [.sentinel, .sentinel, .sentinel, .sentinel] true :=
  Program.laidByTextLater.sub seatTie1 ["concordat/api.ErrBound", "concordat/api.ErrShape", "concordat/api.ErrName", "concordat/api.ErrKind"] (by kernel_rfl) (by kernel_rfl)
theorem cellsJoins_row_tie : Rows.cellsJoinsRow.laidByTextAt .later Tryd.pinned [.sentinel, .sentinel, .sentinel, .sentinel] true :=
  OpenClaim.laidByTextAt_later rfl rfl tie2 noOwnUnsafe
theorem cellsSetsUpto_row_tie : Rows.cellsSetsUptoRow.laidByTextAt .later Tryd.pinned [.handle, .sentinel, .sentinel, .sentinel, .sentinel, .sentinel, .sentinel, .sentinel, .sentinel, .sentinel, .sentinel, .sentinel, .sentinel] true :=
  OpenClaim.laidByTextAt_later rfl rfl tie noOwnUnsafe
theorem cellsJoinsUpto_row_tie : Rows.cellsJoinsUptoRow.laidByTextAt .later Tryd.pinned [.sentinel, .sentinel, .sentinel, .sentinel] true :=
  OpenClaim.laidByTextAt_later rfl rfl tie2 noOwnUnsafe
end Go.Proofs.YtfpmmgboodcfiaaDoor
