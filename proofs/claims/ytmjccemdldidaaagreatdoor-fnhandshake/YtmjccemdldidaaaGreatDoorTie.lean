/-
  DERIVED. GIVEN WITH THE SEED: THE PROGRAM's TIES (one call each: nine closed facts by the kernel) AND EACH ROW's TIE, after the 31st guide's Derived/Test/Toyas{Tie, Card}.lean. No idea stands in it: it is a product of the set-up. Laid BY PROGRAM, IN A SANDBOX (cutbox-door.mjs). By AI agents, Wed Nov 11 2026. No macro, syntax, notation, axiom, sorry.
-/
import Derived.Test.YtmjccemdldidaaaGreatDoorRows
import Derived.LaidByTextLater
import Derived.SevenTiedAt
import Derived.LaidSub
import Derived.LaidOnce
namespace Go.Proofs.YtmjccemdldidaaaGreatDoor
open Go
set_option maxRecDepth 100000
theorem seatTie1 : Tryz.prog.laidByTextLater [("errors.errorType", Rows.laid_errors_errorType), ("loop.example/s02974/impl.blakeStart", Rows.laid_loop_example_s02974_impl_blakeStart), ("loop.example/s02974/impl.blakeOrder", Rows.laid_loop_example_s02974_impl_blakeOrder), ("loop.example/s02974/impl.mixPlaces", Rows.laid_loop_example_s02974_impl_mixPlaces)] [.handle, .data, .data, .data] true :=
  Program.laidByTextLater_by_one 49 8 161 (by kernel_rfl) (by kernel_rfl) (by kernel_rfl) (by kernel_rfl) (by kernel_rfl) (by kernel_rfl) (fun _ _ => by kernel_rfl)
theorem noOwnUnsafe : Tryz.pinned.checked.prog.headLifts.contains "ownunsafe" = false := by kernel_rfl
theorem tie : Tryz.prog.laidByTextLater [("errors.errorType", Rows.laid_errors_errorType), ("loop.example/s02974/impl.blakeStart", Rows.laid_loop_example_s02974_impl_blakeStart), ("loop.example/s02974/impl.blakeOrder", Rows.laid_loop_example_s02974_impl_blakeOrder), ("loop.example/s02974/impl.mixPlaces", Rows.laid_loop_example_s02974_impl_mixPlaces)] [.handle, .data, .data, .data] true :=
  Program.laidByTextLater.sub seatTie1 ["errors.errorType", "loop.example/s02974/impl.blakeStart", "loop.example/s02974/impl.blakeOrder", "loop.example/s02974/impl.mixPlaces"] (by kernel_rfl) (by kernel_rfl)
theorem fnHandshake_row_tie : Rows.fnHandshakeRow.laidByTextAt .later Tryz.pinned [.handle, .data, .data, .data] true :=
  OpenClaim.laidByTextAt_later rfl rfl tie noOwnUnsafe
theorem fnHandshakeUpto_row_tie : Rows.fnHandshakeUptoRow.laidByTextAt .later Tryz.pinned [.handle, .data, .data, .data] true :=
  OpenClaim.laidByTextAt_later rfl rfl tie noOwnUnsafe
end Go.Proofs.YtmjccemdldidaaaGreatDoor
