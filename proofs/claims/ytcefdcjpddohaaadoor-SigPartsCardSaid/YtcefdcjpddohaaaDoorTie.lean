/-
  DERIVED. GIVEN WITH THE SEED: THE PROGRAM's TIES (one call each: nine closed facts by the kernel) AND EACH ROW's TIE, after the 31st guide's Derived/Test/Toyas{Tie, Card}.lean. No idea stands in it: it is a product of the set-up. Laid BY PROGRAM, IN A SANDBOX (cutbox-door.mjs). By AI agents, Wed Nov 11 2026. No macro, syntax, notation, axiom, sorry.
-/
import Derived.Test.YtcefdcjpddohaaaDoorRows
import Derived.LaidByTextLater
import Derived.SevenTiedAt
import Derived.LaidSub
import Derived.LaidOnce
namespace Go.Proofs.YtcefdcjpddohaaaDoor
open Go
set_option maxRecDepth 100000
theorem seatTie1 : Tryd.prog.laidByTextLater [("bandbox/field.turn", Rows.laid_bandbox_field_turn), ("bandbox/point.bend", Rows.laid_bandbox_point_bend), ("bandbox/scalar.order", Rows.laid_bandbox_scalar_order), ("bandbox/sha.starts", Rows.laid_bandbox_sha_starts), ("bandbox/sha.rounds", Rows.laid_bandbox_sha_rounds)] [.data, .data, .data, .data, .data] true :=
  Program.laidByTextLater_by_one 34 8 81 (by kernel_rfl) (by kernel_rfl) (by kernel_rfl) (by kernel_rfl) (by kernel_rfl) (by kernel_rfl) (fun _ _ => by kernel_rfl)
theorem noOwnUnsafe : Tryd.pinned.checked.prog.headLifts.contains "ownunsafe" = false := by kernel_rfl
theorem tie : Tryd.prog.laidByTextLater [("bandbox/field.turn", Rows.laid_bandbox_field_turn), ("bandbox/point.bend", Rows.laid_bandbox_point_bend), ("bandbox/scalar.order", Rows.laid_bandbox_scalar_order), ("bandbox/sha.starts", Rows.laid_bandbox_sha_starts), ("bandbox/sha.rounds", Rows.laid_bandbox_sha_rounds)] [.data, .data, .data, .data, .data] true :=
  Program.laidByTextLater.sub seatTie1 ["bandbox/field.turn", "bandbox/point.bend", "bandbox/scalar.order", "bandbox/sha.starts", "bandbox/sha.rounds"] (by kernel_rfl) (by kernel_rfl)
theorem sigSecond_row_tie : Rows.sigSecondRow.laidByTextAt .later Tryd.pinned [.data, .data, .data, .data, .data] true :=
  OpenClaim.laidByTextAt_later rfl rfl tie noOwnUnsafe
theorem sigParts_row_tie : Rows.sigPartsRow.laidByTextAt .later Tryd.pinned [.data, .data, .data, .data, .data] true :=
  OpenClaim.laidByTextAt_later rfl rfl tie noOwnUnsafe
theorem sigAgain_row_tie : Rows.sigAgainRow.laidByTextAt .later Tryd.pinned [.data, .data, .data, .data, .data] true :=
  OpenClaim.laidByTextAt_later rfl rfl tie noOwnUnsafe
theorem sigSecondUpto_row_tie : Rows.sigSecondUptoRow.laidByTextAt .later Tryd.pinned [.data, .data, .data, .data, .data] true :=
  OpenClaim.laidByTextAt_later rfl rfl tie noOwnUnsafe
theorem sigPartsUpto_row_tie : Rows.sigPartsUptoRow.laidByTextAt .later Tryd.pinned [.data, .data, .data, .data, .data] true :=
  OpenClaim.laidByTextAt_later rfl rfl tie noOwnUnsafe
theorem sigAgainUpto_row_tie : Rows.sigAgainUptoRow.laidByTextAt .later Tryd.pinned [.data, .data, .data, .data, .data] true :=
  OpenClaim.laidByTextAt_later rfl rfl tie noOwnUnsafe
end Go.Proofs.YtcefdcjpddohaaaDoor
