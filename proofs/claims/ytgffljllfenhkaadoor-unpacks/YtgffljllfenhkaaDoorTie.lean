/-
  DERIVED. GIVEN WITH THE SEED: THE PROGRAM's TIES (one call each: nine closed facts by the kernel) AND EACH ROW's TIE, after the 31st guide's Derived/Test/Toyas{Tie, Card}.lean. No idea stands in it: it is a product of the set-up. Laid BY PROGRAM, IN A SANDBOX (cutbox-door.mjs). By AI agents, Wed Nov 11 2026. No macro, syntax, notation, axiom, sorry.
-/
import Derived.Test.YtgffljllfenhkaaDoorRows
import Derived.LaidByTextLater
import Derived.SevenTiedAt
import Derived.LaidSub
import Derived.LaidOnce
namespace Go.Proofs.YtgffljllfenhkaaDoor
open Go
set_option maxRecDepth 100000
theorem seatTie1 : Tryd.prog.laidByTextLater [("rinse/rinseref.base", Rows.laid_rinse_rinseref_base), ("rinse/rinseref.extra", Rows.laid_rinse_rinseref_extra), ("rinse/rinseref.far", Rows.laid_rinse_rinseref_far), ("rinse/rinseref.order", Rows.laid_rinse_rinseref_order), ("rinse/rinse.lengthOrder", Rows.laid_rinse_rinse_lengthOrder), ("rinse/rinse.copyBase", Rows.laid_rinse_rinse_copyBase), ("rinse/rinse.copyBits", Rows.laid_rinse_rinse_copyBits), ("rinse/rinse.distanceBase", Rows.laid_rinse_rinse_distanceBase), ("rinse/rinse.distanceBits", Rows.laid_rinse_rinse_distanceBits)] [.data, .data, .data, .data, .data, .data, .data, .data, .data] true :=
  Program.laidByTextLater_by_one 54 8 31 (by kernel_rfl) (by kernel_rfl) (by kernel_rfl) (by kernel_rfl) (by kernel_rfl) (by kernel_rfl) (fun _ _ => by kernel_rfl)
theorem noOwnUnsafe : Tryd.pinned.checked.prog.headLifts.contains "ownunsafe" = false := by kernel_rfl
theorem tie : Tryd.prog.laidByTextLater [("rinse/rinseref.base", Rows.laid_rinse_rinseref_base), ("rinse/rinseref.extra", Rows.laid_rinse_rinseref_extra), ("rinse/rinseref.far", Rows.laid_rinse_rinseref_far), ("rinse/rinseref.order", Rows.laid_rinse_rinseref_order), ("rinse/rinse.lengthOrder", Rows.laid_rinse_rinse_lengthOrder), ("rinse/rinse.copyBase", Rows.laid_rinse_rinse_copyBase), ("rinse/rinse.copyBits", Rows.laid_rinse_rinse_copyBits), ("rinse/rinse.distanceBase", Rows.laid_rinse_rinse_distanceBase), ("rinse/rinse.distanceBits", Rows.laid_rinse_rinse_distanceBits)] [.data, .data, .data, .data, .data, .data, .data, .data, .data] true :=
  Program.laidByTextLater.sub seatTie1 ["rinse/rinseref.base", "rinse/rinseref.extra", "rinse/rinseref.far", "rinse/rinseref.order", "rinse/rinse.lengthOrder", "rinse/rinse.copyBase", "rinse/rinse.copyBits", "rinse/rinse.distanceBase", "rinse/rinse.distanceBits"] (by kernel_rfl) (by kernel_rfl)
theorem unpacks_row_tie : Rows.unpacksRow.laidByTextAt .later Tryd.pinned [.data, .data, .data, .data, .data, .data, .data, .data, .data] true :=
  OpenClaim.laidByTextAt_later rfl rfl tie noOwnUnsafe
theorem unpacksUpto_row_tie : Rows.unpacksUptoRow.laidByTextAt .later Tryd.pinned [.data, .data, .data, .data, .data, .data, .data, .data, .data] true :=
  OpenClaim.laidByTextAt_later rfl rfl tie noOwnUnsafe
end Go.Proofs.YtgffljllfenhkaaDoor
