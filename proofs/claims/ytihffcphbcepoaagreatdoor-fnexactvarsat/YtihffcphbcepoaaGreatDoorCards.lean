/-
  DERIVED. GIVEN WITH THE SEED: THE CARDS: each row of YtihffcphbcepoaaGreatDoorRows.lean that lists a variable, with what it lists TIED to the program's text (the seventh form; the later family's looks); each row that meets fmt, with fmt's text TOLD by the authors' own Lean function (tested against real Go, not proved from fmt's source: count such statements apart). THE CARD IS WHAT COUNTS. Prove the row's statement (the work); the ties are given (YtihffcphbcepoaaGreatDoorTie.lean); close each card by the builder's one call (the guide's Derived/Test/ToyasCard.lean, 'card_holds'). Laid BY PROGRAM, IN A SANDBOX (cutbox-door.mjs). By AI agents, Wed Nov 11 2026. No macro, syntax, notation, axiom, sorry.
-/
import Derived.Test.YtihffcphbcepoaaGreatDoorRows
import GoSem.ClaimSeven
namespace Go.Proofs.YtihffcphbcepoaaGreatDoor
namespace Rows

/-- THE TIED CARD OF 'laws.FnExactGraph'. -/
def fnExactGraphCard : Claim7 := { stood := { row := fnExactGraphRow, standIns := [], harness := (true, "9e4789a7c3c2b613877e92fe090a43063dae4d2ac2efc8c2ae59f4d581a73e7c"), looks := true }, kinds := [], alts := [], laidByText := true, laidKinds := [.data, .data, .data, .data, .data], laidTests := true, laidLooks := .later }
def FnExactGraphCardSaid : Prop := Claim7.holds Tryz.pinned (.plain (OpenSpec.ofChange fnExactGraphSpec)) fnExactGraphCard

/-- THE TIED CARD OF 'laws.FnExactReached'. -/
def fnExactReachedCard : Claim7 := { stood := { row := fnExactReachedRow, standIns := [], harness := (true, "9e4789a7c3c2b613877e92fe090a43063dae4d2ac2efc8c2ae59f4d581a73e7c"), looks := true }, kinds := [], alts := [], laidByText := true, laidKinds := [.data, .data, .data, .data, .data], laidTests := true, laidLooks := .later }
def FnExactReachedCardSaid : Prop := Claim7.holds Tryz.pinned (.plain (OpenSpec.ofChange fnExactReachedSpec)) fnExactReachedCard

/-- THE TIED CARD OF 'laws.FnExactVarsAt'. -/
def fnExactVarsAtCard : Claim7 := { stood := { row := fnExactVarsAtRow, standIns := [], harness := (true, "9e4789a7c3c2b613877e92fe090a43063dae4d2ac2efc8c2ae59f4d581a73e7c"), looks := true }, kinds := [], alts := [], laidByText := true, laidKinds := [.data, .data], laidTests := true, laidLooks := .later }
def FnExactVarsAtCardSaid : Prop := Claim7.holds Tryz.pinned (.plain (OpenSpec.ofChange fnExactVarsAtSpec)) fnExactVarsAtCard

/-- THE SECOND FORM's CARD OF 'laws.FnExactGraph'. -/
def fnExactGraphUptoCard : Claim7 := { stood := { row := fnExactGraphUptoRow, standIns := [], harness := (true, "9e4789a7c3c2b613877e92fe090a43063dae4d2ac2efc8c2ae59f4d581a73e7c"), looks := true }, kinds := [], alts := [], laidByText := true, laidKinds := [.data, .data, .data, .data, .data], laidTests := true, laidLooks := .later }
def FnExactGraphUptoCardSaid : Prop := Claim7.holds Tryz.pinned (.plain (OpenSpec.upto fnExactGraphSpec)) fnExactGraphUptoCard

/-- THE SECOND FORM's CARD OF 'laws.FnExactReached'. -/
def fnExactReachedUptoCard : Claim7 := { stood := { row := fnExactReachedUptoRow, standIns := [], harness := (true, "9e4789a7c3c2b613877e92fe090a43063dae4d2ac2efc8c2ae59f4d581a73e7c"), looks := true }, kinds := [], alts := [], laidByText := true, laidKinds := [.data, .data, .data, .data, .data], laidTests := true, laidLooks := .later }
def FnExactReachedUptoCardSaid : Prop := Claim7.holds Tryz.pinned (.plain (OpenSpec.upto fnExactReachedSpec)) fnExactReachedUptoCard

/-- THE SECOND FORM's CARD OF 'laws.FnExactVarsAt'. -/
def fnExactVarsAtUptoCard : Claim7 := { stood := { row := fnExactVarsAtUptoRow, standIns := [], harness := (true, "9e4789a7c3c2b613877e92fe090a43063dae4d2ac2efc8c2ae59f4d581a73e7c"), looks := true }, kinds := [], alts := [], laidByText := true, laidKinds := [.data, .data], laidTests := true, laidLooks := .later }
def FnExactVarsAtUptoCardSaid : Prop := Claim7.holds Tryz.pinned (.plain (OpenSpec.upto fnExactVarsAtSpec)) fnExactVarsAtUptoCard
end Rows
end Go.Proofs.YtihffcphbcepoaaGreatDoor
