/-
  DERIVED. GIVEN WITH THE SEED: THE CARDS: each row of YtdhlonogmnkemaaGreatDoorRows.lean that lists a variable, with what it lists TIED to the program's text (the seventh form; the later family's looks); each row that meets fmt, with fmt's text TOLD by the authors' own Lean function (tested against real Go, not proved from fmt's source: count such statements apart). THE CARD IS WHAT COUNTS. Prove the row's statement (the work); the ties are given (YtdhlonogmnkemaaGreatDoorTie.lean); close each card by the builder's one call (the guide's Derived/Test/ToyasCard.lean, 'card_holds'). Laid BY PROGRAM, IN A SANDBOX (cutbox-door.mjs). By AI agents, Wed Nov 11 2026. No macro, syntax, notation, axiom, sorry.
-/
import Derived.Test.YtdhlonogmnkemaaGreatDoorRows
import GoSem.ClaimSeven
namespace Go.Proofs.YtdhlonogmnkemaaGreatDoor
namespace Rows

/-- THE TIED CARD OF 'laws.FnExactRenameVar'. -/
def fnExactRenameVarCard : Claim7 := { stood := { row := fnExactRenameVarRow, standIns := [], harness := (true, "7b90b23fa07cef20d3d652310ad95dbd1ac5c32b9c230da028f6659f3095135b"), looks := false }, kinds := [], alts := [], laidByText := true, laidKinds := [.data, .data], laidTests := true, laidLooks := .later }
def FnExactRenameVarCardSaid : Prop := Claim7.holds Tryz.pinned (.plain (OpenSpec.ofChange fnExactRenameVarSpec)) fnExactRenameVarCard

/-- THE TIED CARD OF 'laws.FnExactRenameFun'. -/
def fnExactRenameFunCard : Claim7 := { stood := { row := fnExactRenameFunRow, standIns := [], harness := (true, "7b90b23fa07cef20d3d652310ad95dbd1ac5c32b9c230da028f6659f3095135b"), looks := false }, kinds := [], alts := [], laidByText := true, laidKinds := [.data, .data], laidTests := true, laidLooks := .later }
def FnExactRenameFunCardSaid : Prop := Claim7.holds Tryz.pinned (.plain (OpenSpec.ofChange fnExactRenameFunSpec)) fnExactRenameFunCard

/-- THE SECOND FORM's CARD OF 'laws.FnExactRenameVar'. -/
def fnExactRenameVarUptoCard : Claim7 := { stood := { row := fnExactRenameVarUptoRow, standIns := [], harness := (true, "7b90b23fa07cef20d3d652310ad95dbd1ac5c32b9c230da028f6659f3095135b"), looks := false }, kinds := [], alts := [], laidByText := true, laidKinds := [.data, .data], laidTests := true, laidLooks := .later }
def FnExactRenameVarUptoCardSaid : Prop := Claim7.holds Tryz.pinned (.plain (OpenSpec.upto fnExactRenameVarSpec)) fnExactRenameVarUptoCard

/-- THE SECOND FORM's CARD OF 'laws.FnExactRenameFun'. -/
def fnExactRenameFunUptoCard : Claim7 := { stood := { row := fnExactRenameFunUptoRow, standIns := [], harness := (true, "7b90b23fa07cef20d3d652310ad95dbd1ac5c32b9c230da028f6659f3095135b"), looks := false }, kinds := [], alts := [], laidByText := true, laidKinds := [.data, .data], laidTests := true, laidLooks := .later }
def FnExactRenameFunUptoCardSaid : Prop := Claim7.holds Tryz.pinned (.plain (OpenSpec.upto fnExactRenameFunSpec)) fnExactRenameFunUptoCard
end Rows
end Go.Proofs.YtdhlonogmnkemaaGreatDoor
