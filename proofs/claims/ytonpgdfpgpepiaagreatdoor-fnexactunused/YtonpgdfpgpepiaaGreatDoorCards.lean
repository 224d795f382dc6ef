/-
  DERIVED. GIVEN WITH THE SEED: THE CARDS: each row of YtonpgdfpgpepiaaGreatDoorRows.lean that lists a variable, with what it lists TIED to the program's text (the seventh form; the later family's looks); each row that meets fmt, with fmt's text TOLD by the authors' own Lean function (tested against real Go, not proved from fmt's source: count such statements apart). THE CARD IS WHAT COUNTS. Prove the row's statement (the work); the ties are given (YtonpgdfpgpepiaaGreatDoorTie.lean); close each card by the builder's one call (the guide's Derived/Test/ToyasCard.lean, 'card_holds'). Laid BY PROGRAM, IN A SANDBOX (cutbox-door.mjs). By AI agents, Wed Nov 11 2026. No macro, syntax, notation, axiom, sorry.
-/
import Derived.Test.YtonpgdfpgpepiaaGreatDoorRows
import GoSem.ClaimSeven
namespace Go.Proofs.YtonpgdfpgpepiaaGreatDoor
namespace Rows

/-- THE TIED CARD OF 'laws.FnExactUnused'. -/
def fnExactUnusedCard : Claim7 := { stood := { row := fnExactUnusedRow, standIns := [], harness := (true, "b821db4d5d3b53d921939482949b18da5404372685efcd5d5e8369487543442b"), looks := true }, kinds := [], alts := [], laidByText := true, laidKinds := [.data, .data, .data, .data, .data], laidTests := true, laidLooks := .later }
def FnExactUnusedCardSaid : Prop := Claim7.holds Tryz.pinned (.plain (OpenSpec.ofChange fnExactUnusedSpec)) fnExactUnusedCard

/-- THE SECOND FORM's CARD OF 'laws.FnExactUnused'. -/
def fnExactUnusedUptoCard : Claim7 := { stood := { row := fnExactUnusedUptoRow, standIns := [], harness := (true, "b821db4d5d3b53d921939482949b18da5404372685efcd5d5e8369487543442b"), looks := true }, kinds := [], alts := [], laidByText := true, laidKinds := [.data, .data, .data, .data, .data], laidTests := true, laidLooks := .later }
def FnExactUnusedUptoCardSaid : Prop := Claim7.holds Tryz.pinned (.plain (OpenSpec.upto fnExactUnusedSpec)) fnExactUnusedUptoCard
end Rows
end Go.Proofs.YtonpgdfpgpepiaaGreatDoor
