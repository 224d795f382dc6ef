/-
  DERIVED. GIVEN WITH THE SEED: THE CARDS: each row of YtompbdecdaaldaaDoorRows.lean that lists a variable, with what it lists TIED to the program's text (the seventh form; the later family's looks); each row that meets fmt, with fmt's text TOLD by the authors' own Lean function (tested against real Go, not proved from fmt's source: count such statements apart). THE CARD IS WHAT COUNTS. Prove the row's statement (the work); the ties are given (YtompbdecdaaldaaDoorTie.lean); close each card by the builder's one call (the guide's Derived/Test/ToyasCard.lean, 'card_holds'). Laid BY PROGRAM, IN A SANDBOX (cutbox-door.mjs). By AI agents, Wed Nov 11 2026. No macro, syntax, notation, axiom, sorry.
-/
import Derived.Test.YtompbdecdaaldaaDoorRows
import GoSem.ClaimSeven
namespace Go.Proofs.YtompbdecdaaldaaDoor
namespace Rows

/-- THE TIED CARD OF 'laws.FnExactFresh'. -/
def fnExactFreshCard : Claim7 := { stood := { row := fnExactFreshRow, standIns := [], harness := (true, "6ca4bd5fca9b38f832db0d4c7b68cfec3f66004cc4b338f012a0b343c25678dd"), looks := false }, kinds := [], alts := [], laidByText := true, laidKinds := [.data, .data, .data], laidTests := true, laidLooks := .later }
def FnExactFreshCardSaid : Prop := Claim7.holds Tryd.pinned (.plain (OpenSpec.ofChange fnExactFreshSpec)) fnExactFreshCard

/-- THE SECOND FORM's CARD OF 'laws.FnExactFresh'. -/
def fnExactFreshUptoCard : Claim7 := { stood := { row := fnExactFreshUptoRow, standIns := [], harness := (true, "6ca4bd5fca9b38f832db0d4c7b68cfec3f66004cc4b338f012a0b343c25678dd"), looks := false }, kinds := [], alts := [], laidByText := true, laidKinds := [.data, .data, .data], laidTests := true, laidLooks := .later }
def FnExactFreshUptoCardSaid : Prop := Claim7.holds Tryd.pinned (.plain (OpenSpec.upto fnExactFreshSpec)) fnExactFreshUptoCard
end Rows
end Go.Proofs.YtompbdecdaaldaaDoor
