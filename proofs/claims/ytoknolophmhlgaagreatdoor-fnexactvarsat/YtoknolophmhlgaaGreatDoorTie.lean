/-
  DERIVED. GIVEN WITH THE SEED: THE PROGRAM's TIES (one call each: nine closed facts by the kernel) AND EACH ROW's TIE, after the 31st guide's Derived/Test/Toyas{Tie, Card}.lean. No idea stands in it: it is a product of the set-up. Laid BY PROGRAM, IN A SANDBOX (cutbox-door.mjs). By AI agents, Wed Nov 11 2026. No macro, syntax, notation, axiom, sorry.
-/
import Derived.Test.YtoknolophmhlgaaGreatDoorRows
import Derived.LaidByTextLater
import Derived.SevenTiedAt
import Derived.LaidSub
import Derived.LaidOnce
namespace Go.Proofs.YtoknolophmhlgaaGreatDoor
open Go
set_option maxRecDepth 100000
theorem seatTie1 : Tryz.prog.laidByTextLater [("loop.example/g00377/impl.keywords", Rows.laid_loop_example_g00377_impl_keywords), ("loop.example/g00377/impl.shapes", Rows.laid_loop_example_g00377_impl_shapes)] [.data, .data] true :=
  Program.laidByTextLater_by_one 30 8 56 (by kernel_rfl) (by kernel_rfl) (by kernel_rfl) (by kernel_rfl) (by kernel_rfl) (by kernel_rfl) (fun _ _ => by kernel_rfl)
theorem noOwnUnsafe : Tryz.pinned.checked.prog.headLifts.contains "ownunsafe" = false := by kernel_rfl
theorem tie : Tryz.prog.laidByTextLater [("loop.example/g00377/impl.keywords", Rows.laid_loop_example_g00377_impl_keywords), ("loop.example/g00377/impl.shapes", Rows.laid_loop_example_g00377_impl_shapes)] [.data, .data] true :=
  Program.laidByTextLater.sub seatTie1 ["loop.example/g00377/impl.keywords", "loop.example/g00377/impl.shapes"] (by kernel_rfl) (by kernel_rfl)
theorem fnExactVarsAt_row_tie : Rows.fnExactVarsAtRow.laidByTextAt .later Tryz.pinned [.data, .data] true :=
  OpenClaim.laidByTextAt_later rfl rfl tie noOwnUnsafe
theorem fnExactVarsAtUpto_row_tie : Rows.fnExactVarsAtUptoRow.laidByTextAt .later Tryz.pinned [.data, .data] true :=
  OpenClaim.laidByTextAt_later rfl rfl tie noOwnUnsafe
end Go.Proofs.YtoknolophmhlgaaGreatDoor
