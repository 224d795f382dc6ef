/-
  DERIVED. GIVEN WITH THE SEED: THE PROGRAM's TIES (one call each: nine closed facts by the kernel) AND EACH ROW's TIE, after the 31st guide's Derived/Test/Toyas{Tie, Card}.lean. No idea stands in it: it is a product of the set-up. Laid BY PROGRAM, IN A SANDBOX (cutbox-door.mjs). By AI agents, Wed Nov 11 2026. No macro, syntax, notation, axiom, sorry.
-/
import Derived.Test.YtbdhpganbbandaaGreatDoorRows
import Derived.LaidByTextLater
import Derived.SevenTiedAt
import Derived.LaidSub
import Derived.LaidOnce
namespace Go.Proofs.YtbdhpganbbandaaGreatDoor
open Go
set_option maxRecDepth 100000
theorem seatTie1 : Tryz.prog.laidByTextLater [("loop.example/g00377/impl.keywords", Rows.laid_loop_example_g00377_impl_keywords), ("loop.example/g00377/impl.shapes", Rows.laid_loop_example_g00377_impl_shapes), ("loop.example/g00377/impl.errBad", Rows.laid_loop_example_g00377_impl_errBad), ("loop.example/g00377/impl.errNone", Rows.laid_loop_example_g00377_impl_errNone), ("loop.example/g00377/impl.errName", Rows.laid_loop_example_g00377_impl_errName), ("loop.example/g00377/impl.errTaken", Rows.laid_loop_example_g00377_impl_errTaken), ("loop.example/g00377/impl.errShape", Rows.laid_loop_example_g00377_impl_errShape), ("loop.example/g00377/impl.errFull", Rows.laid_loop_example_g00377_impl_errFull)] [.data, .data, .sentinel, .sentinel, .sentinel, .sentinel, .sentinel, .sentinel] true :=
  Program.laidByTextLater_by_one 144 8 56 (by kernel_rfl) (by kernel_rfl) (by kernel_rfl) (by kernel_rfl) (by kernel_rfl) (by kernel_rfl) (fun _ _ => by kernel_rfl)
theorem noOwnUnsafe : Tryz.pinned.checked.prog.headLifts.contains "ownunsafe" = false := by kernel_rfl
theorem tie : Tryz.prog.laidByTextLater [("loop.example/g00377/impl.keywords", Rows.laid_loop_example_g00377_impl_keywords), ("loop.example/g00377/impl.shapes", Rows.laid_loop_example_g00377_impl_shapes), ("loop.example/g00377/impl.errBad", Rows.laid_loop_example_g00377_impl_errBad), ("loop.example/g00377/impl.errNone", Rows.laid_loop_example_g00377_impl_errNone), ("loop.example/g00377/impl.errName", Rows.laid_loop_example_g00377_impl_errName), ("loop.example/g00377/impl.errTaken", Rows.laid_loop_example_g00377_impl_errTaken), ("loop.example/g00377/impl.errShape", Rows.laid_loop_example_g00377_impl_errShape), ("loop.example/g00377/impl.errFull", Rows.laid_loop_example_g00377_impl_errFull)] [.data, .data, .sentinel, .sentinel, .sentinel, .sentinel, .sentinel, .sentinel] true :=
  Program.laidByTextLater.sub seatTie1 ["loop.example/g00377/impl.keywords", "loop.example/g00377/impl.shapes", "loop.example/g00377/impl.errBad", "loop.example/g00377/impl.errNone", "loop.example/g00377/impl.errName", "loop.example/g00377/impl.errTaken", "loop.example/g00377/impl.errShape", "loop.example/g00377/impl.errFull"] (by kernel_rfl) (by kernel_rfl)
theorem fnExactRenameVar_row_tie : Rows.fnExactRenameVarRow.laidByTextAt .later Tryz.pinned [.data, .data, .sentinel, .sentinel, .sentinel, .sentinel, .sentinel, .sentinel] true :=
  OpenClaim.laidByTextAt_later rfl rfl tie noOwnUnsafe
theorem fnExactRenameVarUpto_row_tie : Rows.fnExactRenameVarUptoRow.laidByTextAt .later Tryz.pinned [.data, .data, .sentinel, .sentinel, .sentinel, .sentinel, .sentinel, .sentinel] true :=
  OpenClaim.laidByTextAt_later rfl rfl tie noOwnUnsafe
end Go.Proofs.YtbdhpganbbandaaGreatDoor
