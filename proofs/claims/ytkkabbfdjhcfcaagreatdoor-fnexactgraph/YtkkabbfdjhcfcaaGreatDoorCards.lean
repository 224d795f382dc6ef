/-
  DERIVED. GIVEN WITH THE SEED: THE CARDS: each row of YtkkabbfdjhcfcaaGreatDoorRows.lean that lists a variable, with what it lists TIED to the program's text (the seventh form; the later family's looks); each row that meets fmt, with fmt's text TOLD by the authors' own Lean function (tested against real Go, not proved from fmt's source: count such statements apart). THE CARD IS WHAT COUNTS. Prove the row's statement (the work); the ties are given (YtkkabbfdjhcfcaaGreatDoorTie.lean); close each card by the builder's one call (the guide's Derived/Test/ToyasCard.lean, 'card_holds'). Laid BY PROGRAM, IN A SANDBOX (cutbox-door.mjs). By AI agents, Wed Nov 11 2026. No macro, syntax, notation, axiom, sorry.
-/
import Derived.Test.YtkkabbfdjhcfcaaGreatDoorRows
import GoSem.ClaimSeven
namespace Go.Proofs.YtkkabbfdjhcfcaaGreatDoor
namespace Rows

/-- THE TIED CARD OF 'laws.FnExactGraph'. -/
def fnExactGraphCard : Claim7 := { stood := { row := fnExactGraphRow, standIns := [], harness := (true, "e0c924d47e1612a7ac7c23a39564fad99da0b17be25007cd3909af2d0bc21039"), looks := false }, kinds := [], alts := [], laidByText := true, laidKinds := [.data, .data, .data, .data, .data], laidTests := true, laidLooks := .later }
def FnExactGraphCardSaid : Prop := Claim7.holds Tryz.pinned (.plain (OpenSpec.ofChange fnExactGraphSpec)) fnExactGraphCard

/-- THE SECOND FORM's CARD OF 'laws.FnExactGraph'. -/
def fnExactGraphUptoCard : Claim7 := { stood := { row := fnExactGraphUptoRow, standIns := [], harness := (true, "e0c924d47e1612a7ac7c23a39564fad99da0b17be25007cd3909af2d0bc21039"), looks := false }, kinds := [], alts := [], laidByText := true, laidKinds := [.data, .data, .data, .data, .data], laidTests := true, laidLooks := .later }
def FnExactGraphUptoCardSaid : Prop := Claim7.holds Tryz.pinned (.plain (OpenSpec.upto fnExactGraphSpec)) fnExactGraphUptoCard
end Rows
end Go.Proofs.YtkkabbfdjhcfcaaGreatDoor
