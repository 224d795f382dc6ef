/-
  DERIVED. GIVEN WITH THE SEED: THE CARDS: each row of YtbdhpganbbandaaGreatDoorRows.lean that lists a variable, with what it lists TIED to the program's text (the seventh form; the later family's looks); each row that meets fmt, with fmt's text TOLD by the authors' own Lean function (tested against real Go, not proved from fmt's source: count such statements apart). THE CARD IS WHAT COUNTS. Prove the row's statement (the work); the ties are given (YtbdhpganbbandaaGreatDoorTie.lean); close each card by the builder's one call (the guide's Derived/Test/ToyasCard.lean, 'card_holds'). Laid BY PROGRAM, IN A SANDBOX (cutbox-door.mjs). By AI agents, Wed Nov 11 2026. No macro, syntax, notation, axiom, sorry.
-/
import Derived.Test.YtbdhpganbbandaaGreatDoorRows
import GoSem.ClaimSeven
namespace Go.Proofs.YtbdhpganbbandaaGreatDoor
namespace Rows

/-- THE TIED CARD OF 'laws.FnExactRenameVar'. -/
def fnExactRenameVarCard : Claim7 := { stood := { row := fnExactRenameVarRow, standIns := [], harness := (true, "db358485749ee3c63ff1aee49cadd56a7b242266d55335453d0bba4233467e3e"), looks := true }, kinds := [], alts := [], laidByText := true, laidKinds := [.data, .data, .sentinel, .sentinel, .sentinel, .sentinel, .sentinel, .sentinel], laidTests := true, laidLooks := .later }
def FnExactRenameVarCardSaid : Prop := Claim7.holds Tryz.pinned (.plain (OpenSpec.ofChange fnExactRenameVarSpec)) fnExactRenameVarCard

/-- THE SECOND FORM's CARD OF 'laws.FnExactRenameVar'. -/
def fnExactRenameVarUptoCard : Claim7 := { stood := { row := fnExactRenameVarUptoRow, standIns := [], harness := (true, "db358485749ee3c63ff1aee49cadd56a7b242266d55335453d0bba4233467e3e"), looks := true }, kinds := [], alts := [], laidByText := true, laidKinds := [.data, .data, .sentinel, .sentinel, .sentinel, .sentinel, .sentinel, .sentinel], laidTests := true, laidLooks := .later }
def FnExactRenameVarUptoCardSaid : Prop := Claim7.holds Tryz.pinned (.plain (OpenSpec.upto fnExactRenameVarSpec)) fnExactRenameVarUptoCard
end Rows
end Go.Proofs.YtbdhpganbbandaaGreatDoor
