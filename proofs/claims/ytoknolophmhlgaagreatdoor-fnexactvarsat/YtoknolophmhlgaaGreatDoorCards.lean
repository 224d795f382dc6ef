/-
  DERIVED. GIVEN WITH THE SEED: THE CARDS: each row of YtoknolophmhlgaaGreatDoorRows.lean that lists a variable, with what it lists TIED to the program's text (the seventh form; the later family's looks); each row that meets fmt, with fmt's text TOLD by the authors' own Lean function (tested against real Go, not proved from fmt's source: count such statements apart). THE CARD IS WHAT COUNTS. Prove the row's statement (the work); the ties are given (YtoknolophmhlgaaGreatDoorTie.lean); close each card by the builder's one call (the guide's Derived/Test/ToyasCard.lean, 'card_holds'). Laid BY PROGRAM, IN A SANDBOX (cutbox-door.mjs). By AI agents, Wed Nov 11 2026. No macro, syntax, notation, axiom, sorry.
-/
import Derived.Test.YtoknolophmhlgaaGreatDoorRows
import GoSem.ClaimSeven
namespace Go.Proofs.YtoknolophmhlgaaGreatDoor
namespace Rows

/-- THE TIED CARD OF 'laws.FnExactVarsAt'. -/
def fnExactVarsAtCard : Claim7 := { stood := { row := fnExactVarsAtRow, standIns := [], harness := (true, "76892edc037653f7208c0bdf0ce2409f94049359bbb6db0900fe40aa465c6912"), looks := false }, kinds := [], alts := [], laidByText := true, laidKinds := [.data, .data], laidTests := true, laidLooks := .later }
def FnExactVarsAtCardSaid : Prop := Claim7.holds Tryz.pinned (.plain (OpenSpec.ofChange fnExactVarsAtSpec)) fnExactVarsAtCard

/-- THE SECOND FORM's CARD OF 'laws.FnExactVarsAt'. -/
def fnExactVarsAtUptoCard : Claim7 := { stood := { row := fnExactVarsAtUptoRow, standIns := [], harness := (true, "76892edc037653f7208c0bdf0ce2409f94049359bbb6db0900fe40aa465c6912"), looks := false }, kinds := [], alts := [], laidByText := true, laidKinds := [.data, .data], laidTests := true, laidLooks := .later }
def FnExactVarsAtUptoCardSaid : Prop := Claim7.holds Tryz.pinned (.plain (OpenSpec.upto fnExactVarsAtSpec)) fnExactVarsAtUptoCard
end Rows
end Go.Proofs.YtoknolophmhlgaaGreatDoor
